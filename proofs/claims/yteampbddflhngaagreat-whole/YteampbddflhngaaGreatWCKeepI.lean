import Derived.Test.YteampbddflhngaaGreatWCPv2
import Derived.Test.YteampbddflhngaaGreatW41

namespace Go.Proofs.YteampbddflhngaaGreat
open Classical
abbrev z99:=List (ByteArray × ByteArray)
def lookW:z99->ByteArray->Option ByteArray
 |[],_=>none
 |x::B,t=>if x.1=t then some x.2 else lookW B t
def yag(B:z99)(t:ByteArray):ByteArray:=if za8 t=true then(lookW B t).getD ByteArray.empty else t
def yab:z99->List ByteArray->List ByteArray->Option z99
 |B,[],_=>some B
 |B,a::al,row=>if yag B a=ByteArray.empty then yab (B++[(a,row.headD ByteArray.empty)]) al row.tail else if yag B a=row.headD ByteArray.empty then yab B al row.tail else none
def yae(B:z99)(args:List ByteArray):List ByteArray:=args.map (yag B)
abbrev StW:=List Bool × Bool
def yaw(fs:List zg4)(h:zbu)(body:List zbu)(B:z99)(last:Nat)(st:StW):StW :=
 if (body.any fun l=>l.neg && (zl5 l.pred (yae B l.args) fs).isSome)=true then st
 else match zl5 h.pred (yae B h.args) fs with
  |none=>(st.1,true)
  |some k=>if last < ((fs[k]?).map (·.2.2)).getD 0 then(st.1.set k true,st.2) else st
def yaa(fs:List zg4)(h:zbu)(body:List zbu):List zbu->z99->Nat->StW->StW
 |[],B,last,st=>yaw fs h body B last st
 |l::rest,B,last,st=>if l.neg=true then yaa fs h body rest B last st else fs.foldl (fun st f=>if f.1=l.pred then(match yab B l.args f.2.1 with|none=>st|some B'=>yaa fs h body rest B' (max last f.2.2) st) else st) st
theorem ya1(B C:z99)(t:ByteArray):lookW (B++C) t=(lookW B t).or (lookW C t):=by
 induction B with
 |nil=>rfl
 |cons x B ih =>
  rw[List.cons_append,lookW,lookW]
  split
  ·rfl
  ·exact ih
def ycf(B:z99):Prop:=∀ v x,lookW B v=some x->x≠ByteArray.empty
def Ext(B C:z99):Prop:=∀ v x,lookW B v=some x->lookW C v=some x
theorem Ext.trans{A B C:z99}(h:Ext A B)(k:Ext B C):Ext A C:=fun v x q=>k v x (h v x q)
theorem ybi{B C:z99}(h:Ext B C){t:ByteArray}(hv:yag B t≠ByteArray.empty):yag C t=yag B t:=by
 unfold yag at *
 split
 ·rename_i q
  rw[if_pos q] at hv
  cases hl:lookW B t with
  |none=>rw[hl] at hv;exact absurd rfl hv
  |some x=>rw[h t x hl]
 ·rfl
theorem yat:∀(args row:List ByteArray) (B B':z99),args.length=row.length->(∀ x∈row,x≠ByteArray.empty)->(∀ a∈args,a≠ByteArray.empty)->ycf B->yab B args row=some B'->ycf B'/\Ext B B'/\yae B' args=row
 |[],row,B,B',hl,_,_,hB,h=>by
  simp only[yab,uab] at h
  subst h
  have:row=[]:=by cases row with|nil=>rfl|cons a r=>simp at hl
  subst this
  exact⟨hB,fun v x q=>q,rfl⟩
 |a::al,[],B,B',hl,_,_,_,_=>by simp at hl
 |a::al,r::rs,B,B',hl,hr,ha,hB,h=>by
  have hl2:al.length=rs.length:=by simpa using hl
  have hr0:=hr r (by simp)
  have ha0:=ha a (by simp)
  unfold yab at h
  change (if yag B a=ByteArray.empty then yab (B++[(a,r)]) al rs else if yag B a=r then yab B al rs else none)=some B' at h
  split at h
  ·rename_i hv
   have hvar:za8 a=true:=by
    false_or_by_contra
    rename_i q
    unfold yag at hv
    rw[if_neg q] at hv
    exact ha0 hv
   have hno:lookW B a=none:=by
    unfold yag at hv
    rw[if_pos hvar] at hv
    cases hq:lookW B a with
    |none=>rfl
    |some x=>rw[hq] at hv;exact absurd hv (hB a x hq)
   have hB2:ycf (B++[(a,r)]):=by
    intro v x q
    rw[ya1] at q
    cases hq:lookW B v with
    |some y=>rw[hq] at q;simp only[Option.some_or,uab] at q;rw[← q];exact hB v y hq
    |none =>
     rw[hq] at q
     simp only[Option.none_or,lookW] at q
     split at q
     ·simp only[uab] at q;rw[← q];exact hr0
     ·cases q
   have hE:Ext B (B++[(a,r)]):=by
    intro v x q
    rw[ya1,q]
    rfl
   obtain⟨i1,i2,i3⟩:=yat al rs _ B' hl2 (fun x hx=>hr x (by simp[hx])) (fun x hx=>ha x (by simp[hx])) hB2 h
   refine⟨i1,hE.trans i2,?_⟩
   unfold yae at i3 ⊢
   rw[ubu,i3]
   congr 1
   have:lookW (B++[(a,r)]) a=some r:=by
    rw[ya1,hno]
    simp[lookW]
   unfold yag
   rw[if_pos hvar,i2 a r this]
   rfl
  ·rename_i hv
   by_cases he:yag B a=r
   ·rw[if_pos he] at h
    obtain⟨i1,i2,i3⟩:=yat al rs B B' hl2 (fun x hx=>hr x (by simp[hx])) (fun x hx=>ha x (by simp[hx])) hB h
    refine⟨i1,i2,?_⟩
    unfold yae at i3 ⊢
    rw[ubu,i3,ybi i2 hv,he]
   ·rw[if_neg he] at h;cases h
def Agree(B:z99)(σ:ByteArray->ByteArray):Prop:=∀ v x,lookW B v=some x->σ v=x
theorem yal{σ:ByteArray->ByteArray}(hσ:∀ a,σ a≠ByteArray.empty):∀(args:List ByteArray) (B:z99),(∀ a∈args,a≠ByteArray.empty)->Agree B σ->∃ B',yab B args (args.map fun a=>if za8 a=true then σ a else a)=some B'/\Agree B' σ
 |[],B,_,h=>⟨B,rfl,h⟩
 |a::al,B,ha,h=>by
  unfold yab
  simp only[ubu,List.headD_cons,List.tail_cons]
  by_cases hvar:za8 a=true
  ·rw[if_pos hvar]
   cases hq:lookW B a with
   |none =>
    have hv:yag B a=ByteArray.empty:=by unfold yag;rw[if_pos hvar,hq];rfl
    rw[if_pos hv]
    refine yal hσ al _ (fun x hx=>ha x (by simp[hx])) fun v x q=>?_
    rw[ya1] at q
    cases hb:lookW B v with
    |some y=>rw[hb] at q;simp only[Option.some_or,uab] at q;rw[← q];exact h v y hb
    |none =>
     rw[hb] at q
     simp only[Option.none_or,lookW] at q
     split at q
     ·rename_i e;simp only[uab] at q;rw[← q,e]
     ·cases q
   |some x =>
    have hx:=h a x hq
    have hv:yag B a=x:=by unfold yag;rw[if_pos hvar,hq];rfl
    rw[hv,if_neg (by rw[← hx];exact hσ a),if_pos hx.symm]
    exact yal hσ al B (fun x hx=>ha x (by simp[hx])) h
  ·have hv:yag B a=a:=by unfold yag;rw[if_neg hvar]
   rw[if_neg hvar,hv,if_neg (ha a (by simp)),if_pos rfl]
   exact yal hσ al B (fun x hx=>ha x (by simp[hx])) h
theorem yai{pred:ByteArray}{row:List ByteArray}:∀ {fs:List zg4} {k:Nat},zl5 pred row fs=some k->∃ hk:k < fs.length,fs[k].1=pred/\fs[k].2.1=row
 |[],_,h=>by cases h
 |f::fs,k,h=>by
  unfold zl5 at h
  split at h
  ·rename_i q
   simp only[uab] at h
   subst h
   exact⟨by simp,by simpa using q⟩
  ·obtain⟨j,hj,rfl⟩:=ua6.1 h
   obtain⟨q1,q2⟩:=yai hj
   exact⟨by simpa using q1,by simpa using q2⟩
theorem yah{pred:ByteArray}{row:List ByteArray}:∀ {fs:List zg4},zl5 pred row fs=none->∀ m,(pred,row,m)∉fs
 |[],_,m,h=>by cases h
 |f::fs,hq,m,h=>by
  unfold zl5 at hq
  split at hq
  ·cases hq
  ·rename_i q
   rw[Option.map_eq_none_iff] at hq
   rcases uag.1 h with e|h
   ·rw[← e] at q;exact q ⟨rfl,rfl⟩
   ·exact yah hq m h
def ybb(a b:StW):Prop:=b.1.length=a.1.length/\∀ i,a.1.getD i false=true->b.1.getD i false=true
theorem ybb.refl(a:StW):ybb a a:=⟨rfl,fun _ h=>h⟩
theorem ybb.trans{a b c:StW}(h:ybb a b)(k:ybb b c):ybb a c:=⟨k.1.trans h.1,fun i q=>k.2 i (h.2 i q)⟩
theorem yap{α:Type}{g:StW->α->StW}(hg:∀ st x,ybb st (g st x)):∀(l:List α) (st:StW),ybb st (l.foldl g st)
 |[],st=>ybb.refl st
 |x::l,st=>(hg st x).trans (yap hg l _)
theorem yc6(fs:List zg4)(h:zbu)(body:List zbu)(B:z99)(last:Nat)(st:StW):ybb st (yaw fs h body B last st):=by
 unfold yaw
 split
 ·exact ybb.refl st
 ·split
  ·exact⟨rfl,fun i q=>q⟩
  ·split
   ·refine⟨by simp,fun i q=>?_⟩
    simp only
    rw[ztc]
    split
    ·rfl
    ·exact q
   ·exact ybb.refl st
theorem yaq(fs:List zg4)(h:zbu)(body:List zbu):∀(rest:List zbu) (B:z99) (last:Nat) (st:StW),ybb st (yaa fs h body rest B last st)
 |[],B,last,st=>yc6 fs h body B last st
 |l::rest,B,last,st=>by
  unfold yaa
  split
  ·exact yaq fs h body rest B last st
  ·refine yap (fun st f=>?_) fs st
   split
   ·split
    ·exact ybb.refl st
    ·exact yaq fs h body rest _ _ st
   ·exact ybb.refl st
theorem yav{cs:List zab}{fs:List zg4}(hW:ya2 cs fs){c:zab}(hc:c∈cs)(hb:0 < c.body.length)(hne:∀ l∈za2 c,∀ a∈l.args,a≠ByteArray.empty)(hcov:∀ l∈za2 c,∀ y∈l.args,za8 y=true->y∈zaf c):∀(rest done:List zbu) (B:z99) (last:Nat) (st:StW),c.body=done++rest->ycf B->(∀ l∈done,l.neg=false->(∃ m,(l.pred,yae B l.args,m)∈fs)/\∀ a∈l.args,yag B a≠ByteArray.empty)->(yaa fs c.head c.body rest B last st).2=st.2
 |[],done,B,last,st,e,hB,hd=>by
  rw[ub3] at e
  show(yaw fs c.head c.body B last st).2=st.2
  unfold yaw
  split
  ·rfl
  ·rename_i hno
   have hrow:∀ l∈za2 c,yae B l.args=rowT (fun v=>(lookW B v).getD ByteArray.empty) l:=fun l _=>rfl
   obtain⟨m,hm⟩:=hW.shut c hc hb (fun v=>(lookW B v).getD ByteArray.empty) (fun l hl hn=>by
    have:=(hd l (by rw[← e];exact hl) hn).1
    rw[hrow l (by simp[za2,hl])] at this
    exact this) (fun l hl hn m hm=>by
    apply hno
    rw[ub4]
    refine⟨l,hl,?_⟩
    rw[hn,Bool.true_and]
    cases hq:zl5 l.pred (yae B l.args) fs with
    |some k=>rfl
    |none =>
     rw[hrow l (by simp[za2,hl])] at hq
     exact absurd hm (yah hq m))
   rw[← hrow c.head (by simp[za2])] at hm
   cases hq:zl5 c.head.pred (yae B c.head.args) fs with
   |none=>exact absurd hm (yah hq m)
   |some k =>
    simp only
    split <;> rfl
 |l::rest,done,B,last,st,e,hB,hd=>by
  have e2:c.body=(done++[l])++rest:=by rw[e];simp
  have hlb:l∈c.body:=by rw[e];simp
  have hlm:l∈za2 c:=by simp[za2,hlb]
  unfold yaa
  split
  ·rename_i hn
   refine yav hW hc hb hne hcov rest (done++[l]) B last st e2 hB fun l' hl' hn'=>?_
   rcases uao.1 hl' with q|q
   ·exact hd l' q hn'
   ·rw[ua3.1 q,hn] at hn';cases hn'
  ·have hfold:∀(gs:List zg4),(∀ g∈gs,g∈fs)->∀ st:StW,(gs.foldl (fun st f=>if f.1=l.pred then(match yab B l.args f.2.1 with|none=>st|some B'=>yaa fs c.head c.body rest B' (max last f.2.2) st) else st) st).2=st.2:=by
    intro gs
    induction gs with
    |nil=>intro _ st;rfl
    |cons g gs ih =>
     intro hg st
     rw[uax,ih (fun x hx=>hg x (by simp[hx]))]
     have hgm:=hg g (by simp)
     by_cases hp:g.1=l.pred
     ·rw[if_pos hp]
      cases hq:yab B l.args g.2.1 with
      |none=>rfl
      |some B' =>
       simp only
       obtain⟨i1,i2,i3⟩:=yat l.args g.2.1 B B' (hW.je g hgm c hc l hlm hp.symm).symm (hW.ne g hgm) (hne l hlm) hB hq
       refine yav hW hc hb hne hcov rest (done++[l]) B' _ st e2 i1 fun l' hl' hn'=>?_
       rcases uao.1 hl' with q|q
       ·obtain⟨⟨m,d1⟩,d2⟩:=hd l' q hn'
        have hrow:yae B' l'.args=yae B l'.args:=ub2 fun a ha=>ybi i2 (d2 a ha)
        exact⟨⟨m,by rw[hrow];exact d1⟩,fun a ha=>by rw[ybi i2 (d2 a ha)];exact d2 a ha⟩
       ·rw[ua3.1 q]
        refine⟨⟨g.2.2,by rw[i3,← hp];exact hgm⟩,fun a ha=>?_⟩
        have:yag B' a∈yae B' l.args:=uai.2 ⟨a,ha,rfl⟩
        rw[i3] at this
        exact hW.ne g hgm _ this
     ·rw[if_neg hp]
   exact hfold fs (fun g hg=>hg) st
theorem Agree.val{B:z99}{σ:ByteArray->ByteArray}(h:Agree B σ){a:ByteArray}(hv:yag B a≠ByteArray.empty):yag B a=if za8 a=true then σ a else a:=by
 unfold yag at *
 split
 ·rename_i q
  rw[if_pos q] at hv
  cases hl:lookW B a with
  |none=>rw[hl] at hv;exact absurd rfl hv
  |some x=>rw[h a x hl];rfl
 ·rfl
theorem ya4{cs:List zab}{fs:List zg4}(hW:ya2 cs fs){c:zab}(hc:c∈cs)(hne:∀ l∈za2 c,∀ a∈l.args,a≠ByteArray.empty)(hcov:∀ l∈za2 c,∀ y∈l.args,za8 y=true->y∈zaf c){σ:ByteArray->ByteArray}(hσ:∀ a,σ a≠ByteArray.empty){T k:Nat}(hk:k < fs.length)(hT:fs[k].2.2=T)(hh:zl5 c.head.pred (rowT σ c.head) fs=some k)(hneg:∀ l∈c.body,l.neg=true->∀ m,(l.pred,rowT σ l,m)∉fs):∀(rest done:List zbu) (B:z99) (last:Nat) (st:StW),c.body=done++rest->ycf B->Agree B σ->(∀ l∈done,l.neg=false->∀ a∈l.args,yag B a≠ByteArray.empty)->last < T->(∀ l∈rest,l.neg=false->∃ m,m < T/\(l.pred,rowT σ l,m)∈fs)->st.1.length=fs.length->(yaa fs c.head c.body rest B last st).1.getD k false=true
 |[],done,B,last,st,e,hB,hA,hd,hlt,_,hlen=>by
  rw[ub3] at e
  have hval:∀ l∈za2 c,yae B l.args=rowT σ l:=by
   intro l hl
   refine ub2 fun a ha=>hA.val ?_
   by_cases hv:za8 a=true
   ·obtain⟨_,l',hl',hn',ha'⟩:=zh6.1 (hcov l hl a ha hv)
    exact hd l' (by rw[← e];exact hl') hn' a ha'
   ·unfold yag
    rw[if_neg hv]
    exact hne l hl a ha
  show(yaw fs c.head c.body B last st).1.getD k false=true
  unfold yaw
  rw[if_neg]
  ·rw[hval c.head (by simp[za2]),hh]
   have hl2:last < fs[k].2.2:=by rw[hT];exact hlt
   simp only[uac hk,ubp,uas,hl2,if_true]
   rw[ztc,if_pos ⟨rfl,by omega⟩]
  ·intro q
   rw[ub4] at q
   obtain⟨l,hl,q2⟩:=q
   rw[ubb] at q2
   rw[hval l (by simp[za2,hl])] at q2
   obtain⟨j,hj⟩:=ubf.1 q2.2
   obtain⟨j1,j2,j3⟩:=yai hj
   refine hneg l hl q2.1 fs[j].2.2 ?_
   rw[← j2,← j3]
   exact uad j1
 |l::rest,done,B,last,st,e,hB,hA,hd,hlt,hp,hlen=>by
  have e2:c.body=(done++[l])++rest:=by rw[e];simp
  have hlb:l∈c.body:=by rw[e];simp
  have hlm:l∈za2 c:=by simp[za2,hlb]
  unfold yaa
  split
  ·rename_i hn
   refine ya4 hW hc hne hcov hσ hk hT hh hneg rest (done++[l]) B last st e2 hB hA (fun l' hl' hn'=>?_) hlt (fun l' hl'=>hp l' (by simp[hl'])) hlen
   rcases uao.1 hl' with q|q
   ·exact hd l' q hn'
   ·rw[ua3.1 q,hn] at hn';cases hn'
  ·rename_i hn
   have hn:l.neg=false:=by simpa using hn
   obtain⟨m,hm,hf⟩:=hp l (by simp) hn
   obtain⟨pre,post,hsp⟩:=List.append_of_mem hf
   rw[hsp,ubj,uax,← hsp]
   have hle:∀ st x,ybb st ((fun(st:StW) (f:zg4)=>if f.1=l.pred then(match yab B l.args f.2.1 with|none=>st|some B'=>yaa fs c.head c.body rest B' (max last f.2.2) st) else st) st x):=by
    intro st f
    simp only
    split
    ·split
     ·exact ybb.refl st
     ·exact yaq fs c.head c.body rest _ _ st
    ·exact ybb.refl st
   refine(yap hle post _).2 k ?_
   have h1:=yap hle pre st
   generalize pre.foldl _ st=st1 at h1 ⊢
   simp only[if_true]
   obtain⟨B',hB',hA'⟩:=yal hσ l.args B (hne l hlm) hA
   have hB2:yab B l.args (rowT σ l)=some B':=hB'
   rw[hB2]
   simp only
   have hrn:∀ x∈rowT σ l,x≠ByteArray.empty:=by
    intro x hx
    obtain⟨a,ha,rfl⟩:=uai.1 hx
    split
    ·exact hσ a
    ·exact hne l hlm a ha
   obtain⟨i1,i2,i3⟩:=yat l.args (rowT σ l) B B' (by simp[rowT]) hrn (hne l hlm) hB hB2
   refine ya4 hW hc hne hcov hσ hk hT hh hneg rest (done++[l]) B' (max last m) st1 e2 i1 hA' (fun l' hl' hn' a ha=>?_) (by omega) (fun l' hl'=>hp l' (by simp[hl'])) (by rw[h1.1];exact hlen)
   rcases uao.1 hl' with q|q
   ·rw[ybi i2 (hd l' q hn' a ha)];exact hd l' q hn' a ha
   ·rw[ua3.1 q] at ha
    have:yag B' a∈yae B' l.args:=uai.2 ⟨a,ha,rfl⟩
    rw[i3] at this
    exact hrn _ this
def stepW(fs:List zg4)(st:StW)(c:zab):StW:=if 0 < c.body.length then yaa fs c.head c.body c.body [] 0 st else((match zl5 c.head.pred c.head.args fs with|none=>st.1|some k=>st.1.set k true),st.2)
theorem yby(fs:List zg4)(st:StW)(c:zab):ybb st (stepW fs st c):=by
 unfold stepW
 split
 ·exact yaq fs c.head c.body c.body [] 0 st
 ·split
  ·exact ybb.refl st
  ·refine⟨by simp,fun i q=>?_⟩
   simp only
   rw[ztc]
   split
   ·rfl
   ·exact q
theorem ybd{cs:List zab}{fs:List zg4}(hW:ya2 cs fs){k:Nat}(hk:k < fs.length):zl5 fs[k].1 fs[k].2.1 fs=some k:=by
 cases hq:zl5 fs[k].1 fs[k].2.1 fs with
 |none =>
  have:=yah hq fs[k].2.2
  exact absurd (uad hk) this
 |some j =>
  obtain⟨j1,j2,j3⟩:=yai hq
  have:=hW.one _ (uad j1) _ (uad hk) j2 j3
  have hnd:=hW.once
  rw[List.nodup_iff_pairwise_ne,ubx] at hnd
  rcases uc4 j k with q|q|q
  ·exact absurd this (hnd j k j1 hk q)
  ·rw[q]
  ·exact absurd this.symm (hnd k j hk j1 q)
theorem ybm{cs:List zab}{fs:List zg4}(hW:ya2 cs fs)(hne:∀ c∈cs,∀ l∈za2 c,∀ a∈l.args,a≠ByteArray.empty)(hcov:∀ c∈cs,∀ l∈za2 c,∀ y∈l.args,za8 y=true->y∈zaf c):∀(ds:List zab),(∀ c∈ds,c∈cs)->∀ st:StW,(ds.foldl (stepW fs) st).2=st.2
 |[],_,st=>rfl
 |c::ds,h,st=>by
  rw[uax,ybm hW hne hcov ds (fun d hd=>h d (by simp[hd]))]
  have hc:=h c (by simp)
  unfold stepW
  split
  ·rename_i hb
   exact yav hW hc hb (hne c hc) (hcov c hc) c.body [] [] 0 st rfl (fun v x q=>by cases q) (fun l hl=>by cases hl)
  ·rfl
theorem ycd{cs:List zab}{fs:List zg4}(hW:ya2 cs fs)(hne:∀ c∈cs,∀ l∈za2 c,∀ a∈l.args,a≠ByteArray.empty)(hcov:∀ c∈cs,∀ l∈za2 c,∀ y∈l.args,za8 y=true->y∈zaf c):(cs.foldl (stepW fs) (List.replicate fs.length false,false)).2=false/\∀ k,k < fs.length->(cs.foldl (stepW fs) (List.replicate fs.length false,false)).1.getD k false=true:=by
 refine⟨ybm hW hne hcov cs (fun c hc=>hc) _,fun k hk=>?_⟩
 have hkey:∀ c∈cs,(∀ st:StW,st.1.length=fs.length->(stepW fs st c).1.getD k false=true)->(cs.foldl (stepW fs) (List.replicate fs.length false,false)).1.getD k false=true:=by
  intro c hc hs
  obtain⟨pre,post,hsp⟩:=List.append_of_mem hc
  rw[hsp,ubj,uax]
  refine(yap (yby fs) post _).2 k (hs _ ?_)
  rw[(yap (yby fs) pre _).1]
  simp
 rcases hW.just fs[k] (uad hk) with ⟨_,c,hc,hb,h1,h2⟩|⟨c,hc,hb,h0,σ,hσ,h1,h2,h3,h4⟩
 ·refine hkey c hc fun st hl=>?_
  unfold stepW
  rw[if_neg (by omega),h1,h2,ybd hW hk]
  simp only
  rw[ztc,if_pos ⟨rfl,by omega⟩]
 ·refine hkey c hc fun st hl=>?_
  unfold stepW
  rw[if_pos hb]
  exact ya4 hW hc (hne c hc) (hcov c hc) hσ hk rfl (by rw[h1,h2];exact ybd hW hk) h4 c.body [] [] 0 st rfl (fun v x q=>by cases q) (fun v x q=>by cases q) (fun l hl=>by cases hl) (by omega) h3 hl
end Go.Proofs.YteampbddflhngaaGreat
namespace Go.Proofs.YteampbddflhngaaGreat
set_option maxRecDepth 100000
set_option maxHeartbeats 4000000
open Go.RowKit
theorem ybs(t:ByteArray)(w:World)(h:0 < t.size) :
  Calls Tryz.prog 171 #[.string t] w fun e w'=>e=.returned (.bool (za8 t))/\w'=w:=by
 unfold za8
 rw[zss h]
 go_enter Tryz.func171,Tryz.ntmps171
 go_wp2
 all_goals go_ret
 all_goals go_light
 all_goals exact⟨by simp_all [z7l];try omega,rfl⟩
def yak(B:z99):List ByteArray:=B.map (·.1)
def yan(B:z99):List ByteArray:=B.map (·.2)
theorem ycm{B:z99}{k:Nat}(hk:k < B.length)(t:ByteArray):lookW (B.drop k) t=if B[k].1=t then some B[k].2 else lookW (B.drop (k+1)) t:=by
 rw[uah hk]
 rfl
theorem ybp{lo lo2:Nat}(w:World)(vv lv:Value)(B:z99)(t:ByteArray)(h1:SIn lo w vv (yak B))(h2:SIn lo2 w lv (yan B))(hl:B.length<=1000)(ht:0 < t.size) :
  Calls Tryz.prog 134 #[.agg #[vv,lv],.string t] w fun e w'=>e=.returned (.string (yag B t))/\Hid (Below w.heap.size w w'):=by
 have HCA:Hid (∀ W,Calls Tryz.prog 171 #[.string t] W fun e w'=>e=.returned (.bool (za8 t))/\w'=W):=fun W=>ybs t W ht
 have e1:(yak B).length=B.length:=by simp[yak]
 have e2:(yan B).length=B.length:=by simp[yan]
 obtain⟨ao1,cap1,rfl⟩:=h1.shape
 obtain⟨ao2,cap2,rfl⟩:=h2.shape
 rw[e1] at h1 ⊢
 rw[e2] at h2 ⊢
 have HV1:Hid (∀ W k (hk:k < B.length),Below w.heap.size w W->∃ g,ao1=some ⟨g,0,none⟩/\g < W.heap.size/\W.cell? ⟨g,k,none⟩=some (.string B[k].1)):=fun W k hk hb=>by
  obtain⟨g,q1,q2,q3⟩:=(h1.below hb).cell k (by rw[e1];exact hk)
  exact⟨g,q1,q2,by rw[q3];simp[yak]⟩
 have HV2:Hid (∀ W k (hk:k < B.length),Below w.heap.size w W->∃ g,ao2=some ⟨g,0,none⟩/\g < W.heap.size/\W.cell? ⟨g,k,none⟩=some (.string B[k].2)):=fun W k hk hb=>by
  obtain⟨g,q1,q2,q3⟩:=(h2.below hb).cell k (by rw[e2];exact hk)
  exact⟨g,q1,q2,by rw[q3];simp[yan]⟩
 clear h1 h2 e1 e2
 cases hv:za8 t with
 |false =>
  rw[hv] at HCA
  have HR:Hid (yag B t=t):=by unfold Hid yag;rw[hv];simp
  clear hv HV1 HV2
  go_enter Tryz.func134,Tryz.ntmps134
  go_wp2_with (first|(go_at_call 171;refine(HCA.out _).mono ?_;rintro e w1 ⟨rfl,hww⟩;obtain rfl:=hww.symm))
  go_ret
  exact⟨by rw[HR.out];rfl,(Below.refl _ _).alloc (uaa _) _⟩
 |true =>
  rw[hv] at HCA
  have HR:Hid (yag B t=(lookW B t).getD ByteArray.empty):=by unfold Hid yag;rw[hv];simp
  clear hv
  go_enter Tryz.func134,Tryz.ntmps134
  go_wp2_with (first|(go_at_call 171;refine(HCA.out _).mono ?_;rintro e w1 ⟨rfl,hww⟩;obtain rfl:=hww.symm))
  have HB0:Hid (Below w.heap.size w (w.alloc (.cells #[.slice ao1 B.length cap1,.slice ao2 B.length cap2] 111))):=(Below.refl _ _).alloc (uaa _) _
  have hbx:=Box.new w #[.slice ao1 B.length cap1,.slice ao2 B.length cap2] 111
  obtain⟨hc,hf⟩:=hbx.rules
  have hlt:=hbx.lt
  clear hbx
  generalize hwA:w.alloc (.cells #[.slice ao1 B.length cap1,.slice ao2 B.length cap2] 111)=wA at *
  clear hwA
  go_loopw [6] (fun v6 wr=>∃ k:Nat,k<=B.length/\v6=.int .i64 k/\Hid (lookW B t=lookW (B.drop k) t)/\wr=wA) (fun v6 _=>B.length - (intOf v6).toNat)
  case atStart=>exact⟨0,uaj _,rfl,rfl,rfl⟩
  case round =>
   obtain⟨k,hk,rfl,H,hwr⟩:=hrel
   obtain rfl:=hwr.symm
   by_cases hkl:k < B.length
   ·have hki:(k:Int) < (B.length:Int):=by omega
    obtain⟨g1,rfl,hg1,c1⟩:=HV1.out _ k hkl HB0.out
    obtain⟨g2,rfl,hg2,c2⟩:=HV2.out _ k hkl HB0.out
    have hd:=ycm hkl t
    by_cases hx:B[k].1=t
    ·have hs:=zfm hx
     rw[if_pos hx] at hd
     have HR2:Hid (yag B t=B[k].2):=by rw[Hid,HR.out,H.out,hd];rfl
     clear hx hd H HR
     generalize B[k].1=x1 at *
     generalize B[k].2=x2 at *
     go_wp2
     go_ret
     exact⟨by rw[HR2.out];rfl,HB0⟩
    ·have hs:=zei hx
     rw[if_neg hx] at hd
     have H2:Hid (lookW B t=lookW (B.drop (k+1)) t):=by rw[Hid,H.out,hd]
     clear hx hd H
     generalize B[k].1=x1 at *
     go_wp2
     go_roundw
     case rel=>exact⟨k+1,by omega,by go_num,H2,trivial⟩
     case measure=>simp[intOf];omega
   ·have hki:¬ (k:Int) < (B.length:Int):=by omega
    have HR2:Hid (yag B t=ByteArray.empty):=by
     rw[Hid,HR.out,H.out,uaq (by omega)]
     rfl
    clear H HR
    go_wp2
    go_ret
    exact⟨by rw[HR2.out];rfl,HB0⟩
theorem ycw{lo lo2 lo3:Nat}(w:World)(vv lv av:Value)(B:z99)(args:List ByteArray)(h1:SIn lo w vv (yak B))(h2:SIn lo2 w lv (yan B))(h3:SIn lo3 w av args)(hl:B.length<=1000)(ha:args.length<=1000)(hne:∀ a∈args,0 < a.size) :
  Calls Tryz.prog 89 #[.agg #[vv,lv],av] w fun e w'=>∃ v,e=.returned v/\Hid (SIn w.heap.size w' v (yae B args))/\Hid (Below w.heap.size w w'):=by
 obtain⟨i0,hi,hz0,hzs,hzb⟩:=info_parts Tryz.infoString
 have HVA:Hid (∀ W t,Below w.heap.size w W->0 < t.size->Calls Tryz.prog 134 #[.agg #[vv,lv],.string t] W fun e w'=>e=.returned (.string (yag B t))/\Hid (Below W.heap.size W w')):=fun W t hb ht=>ybp W vv lv B t (h1.below hb) (h2.below hb) hl ht
 obtain⟨ao,cap,rfl⟩:=h3.shape
 have HA:Hid (∀ W k (hk:k < args.length),Below w.heap.size w W->∃ g,ao=some ⟨g,0,none⟩/\g < W.heap.size/\W.cell? ⟨g,k,none⟩=some (.string args[k])):=fun W k hk hb=>(h3.below hb).cell k hk
 clear h1 h2 h3
 go_enter Tryz.func89,Tryz.ntmps89
 go_wp2
 have HB0:Hid (Below w.heap.size w (w.alloc (.cells #[vv,lv] 111))):=(Below.refl _ _).alloc (uaa _) _
 have hbx:=Box.new w #[vv,lv] 111
 have HBX:Hid (Box (w.alloc (.cells #[vv,lv] 111)) w.heap.size #[vv,lv] 111):=hbx
 have hltA:=hbx.lt
 clear hbx
 generalize hwA:w.alloc (.cells #[vv,lv] 111)=wA at *
 clear hwA
 go_loopw [5,6] (fun v5 v6 wr=>∃ k:Nat,k<=args.length/\v6=.int .i64 k/\wr.ownsRow wA.heap.size 9 1 v5 k ((yae B (args.take k)).map Value.string)/\Hid (Below wA.heap.size wA wr)) (fun _ v6 _=>args.length - (intOf v6).toNat)
 case atStart=>exact⟨0,uaj _,rfl,World.ownsRow_nil _ _ _ _,Below.refl _ _⟩
 case round =>
  obtain⟨k,hk,rfl,hown,HBk⟩:=hrel
  obtain⟨ao5,cap5,rfl⟩:=zac hown
  have HBw:Hid (Below w.heap.size w wr):=zae HB0.out (HBk.out) (uaa _)
  have hszk:=HBk.out.size
  by_cases hkl:k < args.length
  ·have hki:(k:Int) < (args.length:Int):=by omega
   obtain⟨g,rfl,hg,hca⟩:=HA.out _ k hkl HBw.out
   have ht:=hne _ (uad hkl)
   have hbxr:=(HBX.out.below HBk.out)
   obtain⟨hc,hf⟩:=hbxr.rules
   have hltr:=hbxr.lt
   have HTK:Hid (yae B (args.take (k+1))=yae B (args.take k)++[yag B args[k]]):=by
    unfold Hid yae
    rw[uae hkl,ua8]
    rfl
   have HV:Hid (∀ W,Below wr.heap.size wr W->Calls Tryz.prog 134 #[.agg #[vv,lv],.string args[k]] W fun e w'=>e=.returned (.string (yag B args[k]))/\Hid (Below wr.heap.size wr w')/\w'.cell? ⟨g,k,none⟩=some (.string args[k])/\w'.cell? ⟨w.heap.size,0,none⟩=some vv/\w'.cell? ⟨w.heap.size,1,none⟩=some lv):=fun W hb=>by
    refine(HVA.out W args[k] (zae HBw.out hb (uaa _)) ht).mono ?_
    rintro e w' ⟨q1,q2⟩
    have hb3:=zae hb q2.out (uaa _)
    have hb4:=hbxr.below hb3
    exact⟨q1,hb3,(hb3.cell (p:=⟨g,k,none⟩) hg).trans hca,by rw[hb4.rules.1];rfl,by rw[hb4.rules.1];rfl⟩
   clear hbxr
   generalize yag B args[k]=x at *
   generalize args[k]=y at *
   go_upto_region 5 with fail
   go_cut [7] from 14 to 19 (fun s7 wx=>s7=.string x/\Hid (Below wr.heap.size wr wx))
   case first =>
    go_region_held3 (fun w'=>w'.cell? ⟨g,k,none⟩=some (.string y)/\w'.cell? ⟨w.heap.size,0,none⟩=some vv/\w'.cell? ⟨w.heap.size,1,none⟩=some lv) (first|go_keep|(go_simp;done)) (first|(go_at_call 134;refine(HV.out _ (by exact(by repeat'(first|with_reducible(first|exact zR _ _|assumption|refine zN ?_ _|refine zA ?_ ?_ _|refine zD ?_|refine zS ?_ ?_ _)|go_size)))).mono ?_;rintro e w5 ⟨rfl,HB5,z0,z1,z2⟩))
    go_wp2
    go_meet
    case rel=>exact⟨rfl,HB5⟩
   case rest =>
    obtain⟨rfl,HBx⟩:=hcut
    have ho1:=zaa hown HBx.out
    have hszx:=HBx.out.size
    have HBk2:Hid (Below wA.heap.size wA wc):=zae HBk.out HBx.out (uaa _)
    clear hc hf hca
    go_wp2_with (first|(at_builtin;refine zg3 wc _ _ _ rfl (.tmp 20) (.tmp 22) 30 rfl wA.heap.size 9 i0 _ 1 16 Tryz.underlying30 hi hz0 hzs hzb rfl (by decide) _ _ _ rfl ho1 (Below.refl _ _) _ _ rfl (by simp) rfl (by simp[Value.oneCell']) (by omega) (by omega) HBk2.out.size ?_;intro v' w2 ho2 hB2 hc2 hf2 hk2 hz2';clear hc2 hf2))
    go_roundw
    case rel=>exact⟨k+1,by omega,by go_num,by rw[HTK.out];simpa using ho2,HBk2.out.trans hB2⟩
    case measure=>simp[intOf];omega
  ·have hki:¬ (k:Int) < (args.length:Int):=by omega
   obtain rfl:k=args.length:=by omega
   go_wp2
   go_ret
   refine⟨_,rfl,?_,HBw⟩
   have q:=hown
   rw[ubw] at q
   have e:(yae B args).length=args.length:=by simp[yae]
   unfold Hid SIn
   rw[e]
   exact zbf q (by have:=HB0.out.size;omega)
end Go.Proofs.YteampbddflhngaaGreat
