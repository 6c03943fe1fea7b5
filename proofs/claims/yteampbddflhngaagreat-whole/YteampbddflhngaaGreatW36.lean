import Derived.Test.YteampbddflhngaaGreatW35

namespace Go.Proofs.YteampbddflhngaaGreat
variable {r:zah}{i:Nat}{hs:List (Nat × Nat)}
structure zf2 (r:zah):Prop where
 vars:r.vars<=5
 qf:∀ l∈r.qc,l.qf.length<=3
 qc:∀ l∈r.qc,∀ p,zde l p=true->p < r.vars
 qm:∀ l∈r.qm,∀ p,zde l p=true->p < r.vars
 head:∀ p,zde r.head p=true->p < r.vars
 safe:∀ p,p < r.vars->∃ l∈r.qc,zde l p=true
structure zdx (r:zah) (Ts:List zad) (W:Nat):Prop where
 len:Ts.length=r.qc.length
 ok:∀(i:Nat) (l:zak) (T:zad),r.qc[i]?=some l->Ts[i]?=some T->zd8 T/\T.qp=zby (zbb l)/\T.qg<=W
structure zih (r:zah) (Ts Ns:List zad) (J:zav):Prop where
 head:J.head=r.head
 vars:J.vars=r.vars
 ja:J.ja=(List.range 5).map (zb2 r)
 jg:J.jg=(List.range 5).map fun p=>zd7 r (p:Nat)
 last:J.last=zd7 r r.vars
 bars:J.bars=(r.qm.zip Ns).map fun x=>⟨x.1,zdn x.1,x.2⟩
 qy:J.qy.map (·.rows)=Ts
 vlen:J.qx.length=5
 flen:J.from.length=5
theorem zfy(l:zak){x y:List Nat}(h:∀ p,zde l p=true->x.getD p 0=y.getD p 0):zct l x=zct l y:=by
 have hc:∀ i,rowCell l x i=rowCell l y i:=by
  intro i
  unfold rowCell
  split
  ·rename_i hi
   unfold atT
   rw[show l.qf.getD i ⟨false,0,0⟩=l.qf[i] by simp[List.getD,hi]]
   split
   ·rename_i hv
    simp only[ubb,decide_eq_true_eq] at hv
    exact h _ ((zfg l _).2 ⟨_,uad hi,hv.1,rfl⟩)
   ·rfl
  ·rfl
 unfold zct
 rw[hc,hc,hc]
def z9q(T:zad)(l:zak)(y:List Nat):Prop:=(zbb l=0->T.count≠0)/\(zbb l≠0->(zjz T (zb6 l y 5)).isSome=true)
def zsc(r:zah)(Ts Ns:List zad)(y:List Nat):Prop:=(∀(i:Nat) (l:zak) (T:zad),r.qc[i]?=some l->Ts[i]?=some T->z9q T l y)/\∀ x∈r.qm.zip Ns,zdt x.2 (zct x.1 y)=none
theorem z0q{l:zak}(hl:∀ p,zde l p=true->p < r.vars){d:Nat}(hd:r.vars<=d):zcf l d=zcf l r.vars:=by
 induction hd with
 |refl=>rfl
 |@step m h ih =>
  rw[zeo,if_neg (fun q=>by have:=hl _ q;have:r.vars<=m:=h;omega),ih]
theorem zz8(hv:r.vars<=5){l:zak}(hl:∀ p,zde l p=true->p < r.vars)(y:List Nat):zb6 l y 5=zb6 l y r.vars:=by
 unfold zb6
 rw[z0q hl hv]
def z7v(r:zah)(J:zav)(d:Nat):Prop:=∀(i:Nat) (l:zak) (s:zej),r.qc[i]?=some l->J.qy[i]?=some s->s.ql.length=3/\(∀ k,k<=(zcf l d).length->k < 3->goT s.rows 0 ((zb6 l J.qx d).take k)=some (s.ql.getD k 0))/\(goT s.rows 0 (zb6 l J.qx d)).isSome=true
def z9x(r:zah)(Ns:List zad)(vals:List Nat)(d:Nat):Prop:=∀ x∈r.qm.zip Ns,zdn x.1<=d->zdt x.2 (zct x.1 vals)=none
theorem ztj{d lv:Nat}(h:(i,lv)∈zb2 r d):∃ l,r.qc[i]?=some l/\zde l d=true/\lv=(zcf l d).length:=by
 unfold zb2 at h
 simp only[ub7,ua6,uak] at h
 obtain⟨⟨l,j⟩,h1,lv',h2,h3,h4⟩:=h
 rw[zoe] at h2
 split at h2
 ·rename_i hh
  simp only[uab] at h2
  have:=ub1.1 h1
  simp only at this h3 hh h2
  subst h3
  exact⟨l,this,hh,by omega⟩
 ·cases h2
theorem holds_of{d:Nat}{l:zak}(h:r.qc[i]?=some l)(hh:zde l d=true):(i,(zcf l d).length)∈zb2 r d:=by
 unfold zb2
 simp only[ub7,ua6,uak]
 refine⟨(l,i),ub1.2 h,(zcf l d).length,?_,rfl,rfl⟩
 rw[zoe,if_pos hh]
theorem zoa(r:zah)(d:Nat):((zb2 r d).map (·.1)).Nodup:=by
 unfold zb2
 have key:∀(ls:List zak) (n:Nat),(((ls.zipIdx n).filterMap fun x=>(zbq x.1 d).map fun lv=>(x.2,lv)).map (·.1)).Nodup/\∀ i∈((ls.zipIdx n).filterMap fun x=>(zbq x.1 d).map fun lv=>(x.2,lv)).map (·.1),n<=i:=by
  intro ls
  induction ls with
  |nil=>intro n;simp
  |cons l ls ih =>
   intro n
   obtain⟨i1,i2⟩:=ih (n+1)
   rw[List.zipIdx_cons,List.filterMap_cons]
   cases hl:(zbq l d).map fun lv=>(n,lv) with
   |none=>exact⟨i1,fun i hi=>by have:=i2 i hi;omega⟩
   |some x =>
    have hx:x.1=n:=by
     simp only[ua6] at hl
     obtain⟨a,_,rfl⟩:=hl
     rfl
    simp only[ubu,ubk,uag]
    refine⟨⟨fun hm=>by have:=i2 _ hm;omega,i1⟩,?_⟩
    rintro i (rfl|hi)
    ·omega
    ·have:=i2 i hi;omega
 exact(key r.qc 0).1
def setDown(v lv:Nat)(s:zej):zej:=if lv+1 ≥ 3 then s else{ s with ql:=s.ql.set (lv+1) ((zax s.rows (s.ql.getD lv 0) v).getD 0) }
theorem zy8{J:zav}{v:Nat}{h:Nat × Nat}(hs:zcr J h=true):zek v J h={ J with qy:=J.qy.set h.1 (setDown v h.2 (J.qy.getD h.1 zej.zero)) }:=by
 unfold zek setDown
 by_cases h3:h.2+1 ≥ 3
 ·rw[if_pos (Or.inr h3),if_pos h3]
  have hl:h.1 < J.qy.length:=by simp only[zcr,ubb,decide_eq_true_eq] at hs;exact hs.1
  have:J.qy.set h.1 (J.qy.getD h.1 zej.zero)=J.qy:=by
   rw[show J.qy.getD h.1 zej.zero=J.qy[h.1] by simp[List.getD,hl]]
   exact udc _
  rw[this]
 ·rw[if_neg (by rintro(q|q);rw[hs] at q;cases q;exact h3 q),if_neg h3]
theorem zp2(v:Nat):∀(hs:List (Nat × Nat)) (J:zav),(hs.map (·.1)).Nodup->(∀ h∈hs,zcr J h=true)->∃ ss,hs.foldl (zek v) J={ J with qy:=ss }/\ss.length=J.qy.length/\∀ i s,J.qy[i]?=some s->ss[i]?=some (match hs.lookup i with|none=>s|some lv=>setDown v lv s)
 |[],J,_,_=>⟨J.qy,rfl,rfl,fun i s h=>by simpa using h⟩
 |(j,lv)::hs,J,hn,hst=>by
  simp only[uax]
  have h0:=hst (j,lv) (by simp)
  rw[zy8 h0]
  simp only
  have hjl:j < J.qy.length:=by simp only[zcr,ubb,decide_eq_true_eq] at h0;exact h0.1
  simp only[ubu,ubk] at hn
  obtain⟨ss,e1,e2,e3⟩:=zp2 v hs { J with qy:=J.qy.set j (setDown v lv (J.qy.getD j zej.zero)) } hn.2 (fun h hh=>by
   have:=hst h (by simp[hh])
   unfold zcr at this ⊢
   simpa using this)
  refine⟨ss,e1,by simpa using e2,fun i s hi=>?_⟩
  by_cases hij:i=j
  ·subst hij
   have hg:J.qy.getD i zej.zero=s:=by simp[List.getD,hi]
   have:=e3 i (setDown v lv s) (by rw[hg];simp[hjl])
   rw[this]
   have hnone:hs.lookup i=none:=by
    rw[List.lookup_eq_none_iff]
    intro x hx
    have:x.1≠i:=by
     rintro rfl
     exact hn.1 (uai.2 ⟨x,hx,rfl⟩)
    simpa using fun q=>this q.symm
   rw[hnone]
   simp[List.lookup]
  ·have:=e3 i s (by simp only[udf,Ne.symm hij,if_false];exact hi)
   rw[this]
   have hb:(i == j)=false:=by simp[hij]
   simp[List.lookup,hb]
theorem zzw{lv:Nat}(hn:(hs.map (·.1)).Nodup)(hm:(i,lv)∈hs):hs.lookup i=some lv:=by
 induction hs with
 |nil=>cases hm
 |cons a hs ih =>
  obtain⟨j,m⟩:=a
  simp only[ubu,ubk] at hn
  rcases uag.1 hm with e|hm2
  ·simp only[uak] at e
   obtain⟨rfl,rfl⟩:=e
   simp[List.lookup]
  ·have:i≠j:=by
    rintro rfl
    exact hn.1 (uai.2 ⟨(i,lv),hm2,rfl⟩)
   have hb:(i == j)=false:=by simp[this]
   simp only[List.lookup,hb]
   exact ih hn.2 hm2
theorem zv8(h:∀ lv,(i,lv)∉hs):hs.lookup i=none:=by
 rw[List.lookup_eq_none_iff]
 rintro⟨j,m⟩ hx
 have:i≠j:=by rintro rfl;exact h m hx
 simpa using this
end Go.Proofs.YteampbddflhngaaGreat
namespace Go.Proofs.YteampbddflhngaaGreat
variable {r:zah}{Ts Ns:List zad}{J:zav}
structure JAt (r:zah) (Ts Ns:List zad) (W:Nat) (J:zav) (d:Nat):Prop where
 stat:zih r Ts Ns J
 ql:z7v r J d
 nob:z9x r Ns J.qx d
 «from» : ∀ i,i < d->J.from.getD i 0=J.qx.getD i 0+1
 small:∀ i,i < d->J.qx.getD i 0 < W
theorem zih.same{J':zav}(h:zih r Ts Ns J)(s:zks J J'):zih r Ts Ns J':=by
 rw[s];exact⟨h.head,h.vars,h.ja,h.jg,h.last,h.bars,h.qy,h.vlen,h.flen⟩
theorem JAt.same{r:zah}{Ts Ns:List zad}{W:Nat}{J J':zav}{d:Nat}(h:JAt r Ts Ns W J d)(s:zks J J'):JAt r Ts Ns W J' d:=by
 refine⟨h.stat.same s,?_,?_,?_,?_⟩
 ·rw[s];exact h.ql
 ·rw[s];exact h.nob
 ·rw[s];exact h.from
 ·rw[s];exact h.small
theorem JAt.back{W:Nat}{d b:Nat}(h:JAt r Ts Ns W J d)(hb:b<=d):JAt r Ts Ns W J b:=by
 refine⟨h.stat,fun i l s hl hs=>?_,fun x hx hk=>h.nob x hx (by omega),fun i hi=>h.from i (by omega),fun i hi=>h.small i (by omega)⟩
 obtain⟨n1,n2,n3⟩:=h.ql i l s hl hs
 have hle:(zcf l b).length<=(zcf l d).length:=(zr8 l hb).length_le
 refine⟨n1,fun k hk h3=>?_,?_⟩
 ·rw[zi7 l J.qx hb,List.take_take,ubv hk]
  exact n2 k (by omega) h3
 ·rw[zi7 l J.qx hb]
  have hsp:zb6 l J.qx d=(zb6 l J.qx d).take (zcf l b).length++(zb6 l J.qx d).drop (zcf l b).length:=(ube _ _).symm
  rw[hsp,zft] at n3
  cases hg:goT s.rows 0 ((zb6 l J.qx d).take (zcf l b).length) with
  |none=>rw[hg] at n3;cases n3
  |some x=>rfl
theorem zih.side(h:zih r Ts Ns J){i:Nat}{s:zej}(hs:J.qy[i]?=some s):Ts[i]?=some s.rows:=by
 rw[← h.qy];simp[hs]
theorem zih.some{r:zah}{Ts Ns:List zad}{W:Nat}{J:zav}(h:zih r Ts Ns J)(hf:zdx r Ts W){i:Nat}{l:zak}(hl:r.qc[i]?=some l):∃ s,J.qy[i]?=some s:=by
 have h1:J.qy.length=r.qc.length:=by rw[← hf.len,← h.qy];simp
 have h2:i < r.qc.length:=(uat.1 hl).1
 exact⟨_,uac (by omega)⟩
theorem zih.holdsAt(h:zih r Ts Ns J){d:Nat}(hd:d < 5):J.ja.getD d []=zb2 r d:=by
 rw[h.ja];simp[List.getD,hd]
theorem JAt.hold{W:Nat}{d:Nat}(h:JAt r Ts Ns W J d)(hr:zf2 r)(hf:zdx r Ts W){x:Nat × Nat}(hx:x∈zb2 r d) :
  ∃ l s,r.qc[x.1]?=some l/\J.qy[x.1]?=some s/\zde l d=true/\x.2=(zcf l d).length/\x.2 < 3/\zcr J x=true/\zd8 s.rows/\s.rows.qg<=W/\∀ v,goT s.rows 0 (zb6 l J.qx d++[v])=zh3 J x v:=by
 obtain⟨i,lv⟩:=x
 obtain⟨l,h1,h2,h3⟩:=ztj hx
 obtain⟨s,hs⟩:=h.stat.some hf h1
 have hlv:(zcf l (d+1)).length=lv+1:=by rw[zeo,if_pos h2,h3];simp
 have h4:lv < 3:=by
  have:=zko l (d+1)
  have:=hr.qf l (ubi h1)
  omega
 have hil:i < J.qy.length:=(uat.1 hs).1
 obtain⟨t1,t2,t3⟩:=hf.ok i l s.rows h1 (h.stat.side hs)
 refine⟨l,s,h1,hs,h2,h3,h4,by simp[zcr,hil,h4],t1,t3,fun v=>?_⟩
 obtain⟨n1,n2,n3⟩:=h.ql i l s h1 hs
 have:=n2 lv (by omega) h4
 rw[h3,show(zb6 l J.qx d).take (zcf l d).length=zb6 l J.qx d by rw[← zg0 l J.qx d];exact ubw] at this
 rw[zft,this]
 unfold zh3
 simp only[List.getD,hs,uas,Option.bind_some,goT,h3]
 cases zax s.rows _ v <;> rfl
theorem zrn(h:zih r Ts Ns J)(k:Nat):zb3 J k=true↔∃ x∈r.qm.zip Ns,zdn x.1=k/\(zdt x.2 (zct x.1 J.qx)).isSome=true:=by
 unfold zb3
 rw[h.bars,List.any_map,ub4]
 simp
theorem JAt.take{r:zah}{Ts Ns:List zad}{W:Nat}{J:zav}{d v:Nat}(h:JAt r Ts Ns W J d)(hr:zf2 r)(hf:zdx r Ts W)(hd:d < r.vars)(hv:∀ x∈zb2 r d,(zh3 J x v).isSome=true)(hW:v < W) :
  (zf0 J d v).qx=J.qx.set d v/\(∀ i,i < d->(zf0 J d v).from.getD i 0=J.from.getD i 0)/\(zf0 J d v).from.getD d 0=v+1/\(d+1 < 5->(zf0 J d v).from.getD (d+1) 0=0)/\JAt r Ts Ns W (zf0 J d v) d/\(zb3 (zf0 J d v) (d+1)=false->JAt r Ts Ns W (zf0 J d v) (d+1)):=by
 have hv5:=hr.vars
 have hd5:d < 5:=by omega
 have hvl:=h.stat.vlen
 have hfl:=h.stat.flen
 unfold zf0
 rw[if_neg (by omega),h.stat.holdsAt hd5]
 obtain⟨ss,e1,e2,e3⟩:=zp2 v (zb2 r d) { J with qx:=J.qx.set d v,«from»:=(if d+1 < 5 then(J.from.set d (v+1)).set (d+1) 0 else J.from.set d (v+1)) } (zoa r d) (fun x hx=>by
  obtain⟨_,_,_,_,_,_,_,q,_⟩:=h.hold hr hf hx
  unfold zcr at q ⊢
  exact q)
 rw[e1]
 simp only at e2 e3 ⊢
 have hfr:∀ i,i < d->(if d+1 < 5 then(J.from.set d (v+1)).set (d+1) 0 else J.from.set d (v+1)).getD i 0=J.from.getD i 0:=by
  intro i hi
  split
  ·rw[zam,if_neg (by omega),zam,if_neg (by omega)]
  ·rw[zam,if_neg (by omega)]
 have hfd:(if d+1 < 5 then(J.from.set d (v+1)).set (d+1) 0 else J.from.set d (v+1)).getD d 0=v+1:=by
  split
  ·rw[zam,if_neg (by omega),zam,if_pos ⟨rfl,by omega⟩]
  ·rw[zam,if_pos ⟨rfl,by omega⟩]
 have hrows:ss.map (·.rows)=Ts:=by
  rw[← h.stat.qy]
  refine uce fun i=>?_
  simp only[ub5]
  cases hs:J.qy[i]? with
  |none =>
   have:J.qy.length<=i:=List.getElem?_eq_none_iff.1 hs
   rw[uav (by omega)]
  |some s =>
   rw[e3 i s hs]
   simp only[ubp,uab]
   cases (zb2 r d).lookup i with
   |none=>rfl
   |some lv=>simp only[setDown];split <;> rfl
 have hstat:zih r Ts Ns { J with qy:=ss,qx:=J.qx.set d v,«from»:=(if d+1 < 5 then(J.from.set d (v+1)).set (d+1) 0 else J.from.set d (v+1)) }:=⟨h.stat.head,h.stat.vars,h.stat.ja,h.stat.jg,h.stat.last,h.stat.bars,hrows,by simpa using hvl,by show(if d+1 < 5 then(J.from.set d (v+1)).set (d+1) 0 else J.from.set d (v+1)).length=5;split <;> simpa using hfl⟩
 have hlow:∀ l:zak,zb6 l (J.qx.set d v) d=zb6 l J.qx d:=fun l=>zia l fun p hp _=>by rw[zam,if_neg (by omega)]
 have hnodes:∀(i:Nat) (l:zak) (s s':zej),r.qc[i]?=some l->J.qy[i]?=some s->ss[i]?=some s'->s'.ql.length=3/\(∀ k,k<=(zcf l d).length->k < 3->goT s'.rows 0 ((zb6 l J.qx d).take k)=some (s'.ql.getD k 0))/\(goT s'.rows 0 (zb6 l J.qx d)).isSome=true/\(∀ k,k<=(zcf l (d+1)).length->k < 3->goT s'.rows 0 ((zb6 l (J.qx.set d v) (d+1)).take k)=some (s'.ql.getD k 0))/\(goT s'.rows 0 (zb6 l (J.qx.set d v) (d+1))).isSome=true:=by
  intro i l s s' hl hs hs'
  obtain⟨n1,n2,n3⟩:=h.ql i l s hl hs
  rw[e3 i s hs] at hs'
  by_cases hh:zde l d=true
  ·have hm:=holds_of hl hh
   rw[zzw (zoa r d) hm] at hs'
   simp only[uab] at hs'
   obtain⟨l',s0,q1,q2,_,q4,q5,_,_,_,q9⟩:=h.hold hr hf hm
   simp only at q1 q2 q5
   rw[hl] at q1;rw[hs] at q2
   simp only[uab] at q1 q2
   subst q1;subst q2
   have hvv:=hv _ hm
   obtain⟨bb,hbb⟩:=ubf.1 hvv
   have hgo:=q9 v
   rw[hbb] at hgo
   have hp:zb6 l (J.qx.set d v) (d+1)=zb6 l J.qx d++[v]:=by rw[zqr l _ _ _ (by omega),if_pos hh]
   have hrow':s'.rows=s.rows:=by rw[← hs'];unfold setDown;split <;> rfl
   have hlen:(zb6 l J.qx d).length=(zcf l d).length:=zg0 _ _ _
   have hnd:∀ k,k<=(zcf l d).length->s'.ql.getD k 0=s.ql.getD k 0:=by
    intro k hk
    rw[← hs'];unfold setDown;split
    ·rfl
    ·rw[zam,if_neg (by omega)]
   have hdn:zax s.rows (s.ql.getD (zcf l d).length 0) v=some bb:=by
    unfold zh3 at hbb
    simpa [List.getD,hs] using hbb
   refine⟨by rw[← hs'];unfold setDown;split <;> simp[n1],fun k hk h3=>by rw[hrow',hnd k hk];exact n2 k hk h3,by rw[hrow'];exact n3,fun k hk h3=>?_,by rw[hrow',hp,hgo];rfl⟩
   rw[hrow',hp]
   rw[zeo,if_pos hh,uar,List.length_singleton] at hk
   by_cases hk2:k<=(zcf l d).length
   ·rw[List.take_append_of_le_length (by omega),hnd k hk2]
    exact n2 k hk2 h3
   ·have:k=(zcf l d).length+1:=by omega
    subst this
    rw[uam (by simp[hlen]),hgo,← hs']
    unfold setDown
    rw[if_neg (by omega)]
    simp only
    rw[zam,if_pos ⟨rfl,by omega⟩,hdn]
    rfl
  ·have hno:∀ lv,(i,lv)∉zb2 r d:=fun lv hm=>by
    obtain⟨l',q1,q2,_⟩:=ztj hm
    rw[hl] at q1
    simp only[uab] at q1
    subst q1
    exact hh q2
   rw[zv8 hno] at hs'
   simp only[uab] at hs'
   subst hs'
   have hp:zb6 l (J.qx.set d v) (d+1)=zb6 l J.qx d:=by rw[zqr l _ _ _ (by omega),if_neg hh]
   have hvv:zcf l (d+1)=zcf l d:=by rw[zeo,if_neg hh]
   exact⟨n1,n2,n3,by rw[hp,hvv];exact n2,by rw[hp];exact n3⟩
 have hside:∀(i:Nat) (l:zak) (s':zej),r.qc[i]?=some l->ss[i]?=some s'->∃ s,J.qy[i]?=some s:=fun i l s' hl _=>h.stat.some hf hl
 have hrl:∀ x∈r.qm.zip Ns,zdn x.1<=d->zct x.1 (J.qx.set d v)=zct x.1 J.qx:=fun x _ hk=>zfy x.1 fun p hp=>by
  have:=zk9 x.1 hp
  rw[zam,if_neg (by omega)]
 refine⟨trivial,hfr,hfd,fun h5=>?_,⟨hstat,fun i l s' hl hs'=>?_,fun x hx hk=>?_,fun i hi=>?_,fun i hi=>?_⟩,fun hb=>⟨hstat,fun i l s' hl hs'=>?_,fun x hx hk=>?_,fun i hi=>?_,fun i hi=>?_⟩⟩
 ·rw[if_pos h5,zam,if_pos ⟨rfl,by simp;omega⟩]
 ·obtain⟨s,hs⟩:=hside i l s' hl hs'
  obtain⟨a1,a2,a3,_,_⟩:=hnodes i l s s' hl hs hs'
  exact⟨a1,by rw[hlow];exact a2,by rw[hlow];exact a3⟩
 ·show zdt x.2 (zct x.1 (J.qx.set d v))=none
  rw[hrl x hx hk];exact h.nob x hx hk
 ·show(if d+1 < 5 then _ else _:List Nat).getD i 0=(J.qx.set d v).getD i 0+1
  rw[hfr i hi,zam,if_neg (by omega)];exact h.from i hi
 ·show(J.qx.set d v).getD i 0 < W
  rw[zam,if_neg (by omega)];exact h.small i hi
 ·obtain⟨s,hs⟩:=hside i l s' hl hs'
  obtain⟨a1,_,_,a4,a5⟩:=hnodes i l s s' hl hs hs'
  exact⟨a1,a4,a5⟩
 ·show zdt x.2 (zct x.1 (J.qx.set d v))=none
  by_cases hkd:zdn x.1<=d
  ·rw[hrl x hx hkd];exact h.nob x hx hkd
  ·cases hm:zdt x.2 (zct x.1 (J.qx.set d v)) with
   |none=>rfl
   |some m =>
    have:=(zrn hstat (d+1)).2 ⟨x,hx,by omega,by show(zdt x.2 (zct x.1 (J.qx.set d v))).isSome=true;rw[hm];rfl⟩
    rw[hb] at this;cases this
 ·show(if d+1 < 5 then _ else _:List Nat).getD i 0=(J.qx.set d v).getD i 0+1
  by_cases hi2:i=d
  ·subst hi2
   rw[hfd,zam,if_pos ⟨rfl,by omega⟩]
  ·rw[hfr i (by omega),zam,if_neg (by omega)];exact h.from i (by omega)
 ·show(J.qx.set d v).getD i 0 < W
  by_cases hi2:i=d
  ·subst hi2
   rw[zam,if_pos ⟨rfl,by omega⟩];exact hW
  ·rw[zam,if_neg (by omega)];exact h.small i (by omega)
end Go.Proofs.YteampbddflhngaaGreat
namespace Go.Proofs.YteampbddflhngaaGreat
variable {d W:Nat}{Ts Ns:List zad}
def z9f(d:Nat)(vals:List Nat)(f:Nat)(y:List Nat):Prop:=(∀ p,p < d->y.getD p 0=vals.getD p 0)/\f<=y.getD d 0∨∃ i,i < d/\(∀ p,p < i->y.getD p 0=vals.getD p 0)/\vals.getD i 0 < y.getD i 0
def Left(r:zah)(Ts Ns:List zad)(E:zao->Prop)(d:Nat)(vals:List Nat)(f:Nat):Prop:=∀ y,zsc r Ts Ns y->E (zct r.head y)∨z9f d vals f y
theorem z4l{l:zak}{e:Nat}(hl:∀ p,zde l p=true->p < d)(hd:d<=e):zcf l e=zcf l d:=by
 induction hd with
 |refl=>rfl
 |@step m h ih =>
  rw[zeo,if_neg (fun q=>by have:=hl _ q;have:d<=m:=h;omega),ih]
def z7o(d:Nat)(vals y:List Nat):List Nat:=(List.range 5).map fun p=>if p < d then vals.getD p 0 else y.getD p 0
theorem zwb(d:Nat)(vals y:List Nat){p:Nat}(hp:p < 5):(z7o d vals y).getD p 0=if p < d then vals.getD p 0 else y.getD p 0:=by
 simp[z7o,List.getD,hp]
theorem z8k{T:zad}{a:Nat}{p q:zao}(h:(goT T a (p++q)).isSome=true):(goT T a p).isSome=true:=by
 rw[zft] at h
 cases hg:goT T a p with
 |none=>rw[hg] at h;cases h
 |some x=>rfl
theorem JAt.mix{r:zah}{J:zav}(h:JAt r Ts Ns W J d)(hr:zf2 r)(hf:zdx r Ts W)(hd:d<=r.vars){y:List Nat}(hy:zsc r Ts Ns y)(ha:∀ p:Nat,(p:Int)<=zd7 r (d:Nat)->y.getD p 0=J.qx.getD p 0):zsc r Ts Ns (z7o d J.qx y)/\zct r.head (z7o d J.qx y)=zct r.head y:=by
 obtain⟨_,_,b3,b4,b5⟩:=zl1 r (jd:=(d:Nat)) (by omega)
 have hv5:=hr.vars
 have hlo:∀ {l:zak},(∀ p,zde l p=true->p < r.vars)->(∀ p,zde l p=true->p < d)->∀ p,zde l p=true->(z7o d J.qx y).getD p 0=J.qx.getD p 0:=fun hl hk p hp=>by
  have:=hl p hp
  rw[zwb d _ _ (by omega),if_pos (hk p hp)]
 have hhi:∀ {l:zak},(∀ p,zde l p=true->p < r.vars)->(∀ p,zde l p=true->p < d->(p:Int)<=zd7 r (d:Nat))->∀ p,zde l p=true->(z7o d J.qx y).getD p 0=y.getD p 0:=fun hl hk p hp=>by
  have:=hl p hp
  rw[zwb d _ _ (by omega)]
  split
  ·rename_i hpd;exact(ha p (hk p hp hpd)).symm
  ·rfl
 refine⟨⟨fun i l T hl hT=>⟨fun h0=>(hy.1 i l T hl hT).1 h0,fun h0=>?_⟩,fun x hx=>?_⟩,zfy _ (hhi hr.head fun p hp hk=>by have:=zrr r.head (jd:=((d:Nat):Int)) hp (by omega);omega)⟩
 ·have hlm:=ubi hl
  rcases zyi (b4 l hlm) with hk|hk
  ·obtain⟨s,hs⟩:=h.stat.some hf hl
   have hrow:=h.stat.side hs
   rw[hT] at hrow
   simp only[uab] at hrow
   have e:zb6 l (z7o d J.qx y) 5=zb6 l J.qx d:=by
    rw[zia l (y:=J.qx) fun p _ hp=>hlo (hr.qc l hlm) hk p hp]
    unfold zb6
    rw[z4l hk (by omega)]
   rw[e,hrow]
   exact(h.ql i l s hl hs).2.2
  ·rw[zia l (y:=y) fun p _ hp=>hhi (hr.qc l hlm) hk p hp]
   exact(hy.1 i l T hl hT).2 h0
 ·have hlm:x.1∈r.qm:=(List.of_mem_zip hx).1
  rcases zyi (b5 x.1 hlm) with hk|hk
  ·rw[zfy x.1 (hlo (hr.qm x.1 hlm) hk)]
   exact h.nob x hx (ztr x.1 hk)
  ·rw[zfy x.1 (hhi (hr.qm x.1 hlm) hk)]
   exact hy.2 x hx
theorem JAt.sol{r:zah}{J:zav}(h:JAt r Ts Ns W J d)(hr:zf2 r)(hf:zdx r Ts W)(hd:d < r.vars){y:List Nat}(hy:zsc r Ts Ns y)(ha:∀ p,p < d->y.getD p 0=J.qx.getD p 0):∀ x∈zb2 r d,(zh3 J x (y.getD d 0)).isSome=true:=by
 intro x hx
 obtain⟨l,s,h1,h2,h3,_,_,_,_,_,h9⟩:=h.hold hr hf hx
 have hv5:=hr.vars
 have hT:=h.stat.side h2
 have h0:zbb l≠0:=by
  rw[zeb]
  intro q
  have:d∈zcf l 5:=(zh1 l 5 d).2 ⟨by omega,h3⟩
  rw[ubm.1 q] at this
  cases this
 have hs:=(hy.1 x.1 l s.rows h1 hT).2 h0
 rw[← h9]
 have e:zb6 l J.qx d++[y.getD d 0]=zb6 l y (d+1):=by
  have:zb6 l y d=zb6 l J.qx d:=zia l fun p hp _=>ha p hp
  unfold zb6 at this ⊢
  rw[zeo,if_pos h3,ua8,this]
  rfl
 rw[e,zi7 l y (show d+1<=5 by omega)]
 unfold zjz at hs
 rw[← ube (zcf l (d+1)).length (zb6 l y 5)] at hs
 exact z8k hs
def zy4(W:Nat):Nat->Nat
 |0=>1
 |j+1=>W * (1+zy4 W j)+1
def zpg(W vars d f:Nat):Nat:=(W - f) * (1+zy4 W (vars - d - 1))+1
def zm1(W vars:Nat)(vals:List Nat):Nat->Nat
 |0=>0
 |d+1=>zm1 W vars vals d+zpg W vars d (vals.getD d 0+1)
def zgu(W vars d:Nat)(vals:List Nat)(f:Nat):Nat:=zm1 W vars vals d+if d < vars then zpg W vars d f else 1
theorem zn1(W vars:Nat){x y:List Nat}:∀ d,(∀ p,p < d->x.getD p 0=y.getD p 0)->zm1 W vars x d=zm1 W vars y d
 |0,_=>rfl
 |d+1,h=>by simp only[zm1];rw[zn1 W vars d (fun p hp=>h p (by omega)),h d (by omega)]
theorem zy6(W vars:Nat)(vals:List Nat){a b:Nat}(h:a<=b):zm1 W vars vals a<=zm1 W vars vals b:=by
 induction h with
 |refl=>exact uaa _
 |step h ih=>simp only[zm1];omega
theorem zy5{vars f v:Nat}{vals:List Nat}(hd:d < vars)(hl:d < vals.length)(hf:f<=v)(hv:v < W):zgu W vars (d+1) (vals.set d v) 0 < zgu W vars d vals f/\zgu W vars d (vals.set d v) (v+1) < zgu W vars d vals f:=by
 have e1:zm1 W vars (vals.set d v) d=zm1 W vars vals d:=zn1 W vars d fun p hp=>by rw[zam,if_neg (by omega)]
 have e2:(vals.set d v).getD d 0=v:=by rw[zam,if_pos ⟨rfl,hl⟩]
 have e3:(if d+1 < vars then zpg W vars (d+1) 0 else 1)=zy4 W (vars - d - 1):=by
  split
  ·obtain⟨j,hj⟩:∃ j,vars - d - 1=j+1:=⟨vars - d - 2,by omega⟩
   rw[hj]
   unfold zpg
   rw[show vars - (d+1) - 1=j by omega,Nat.sub_zero]
   rfl
  ·rw[show vars - d - 1=0 by omega];rfl
 have e4:zpg W vars d f=zpg W vars d (v+1)+(v+1 - f) * (1+zy4 W (vars - d - 1)):=by
  unfold zpg
  rw[show W - f=(W - (v+1))+(v+1 - f) by omega,Nat.add_mul]
  omega
 have e5:1 * (1+zy4 W (vars - d - 1))<=(v+1 - f) * (1+zy4 W (vars - d - 1)):=uc2 _ (by omega)
 refine⟨?_,?_⟩
 ·unfold zgu
  rw[if_pos hd,e3]
  simp only[zm1]
  rw[e1,e2]
  omega
 ·unfold zgu
  rw[if_pos hd,if_pos hd,e1]
  omega
theorem zs4(W vars d:Nat)(vals:List Nat)(f:Nat):1<=zgu W vars d vals f:=by
 unfold zgu
 split
 ·unfold zpg;omega
 ·omega
theorem zpz{vars b f:Nat}{vals:List Nat}(hd:d<=vars)(hb:b < d):zgu W vars b vals (vals.getD b 0+1) < zgu W vars d vals f:=by
 have e1:zgu W vars b vals (vals.getD b 0+1)=zm1 W vars vals (b+1):=by
  unfold zgu;rw[if_pos (by omega)];rfl
 have e2:=zy6 W vars vals (show b+1<=d by omega)
 have e3:1<=if d < vars then zpg W vars d f else 1:=by
  split
  ·unfold zpg;omega
  ·omega
 rw[e1]
 unfold zgu
 omega
def z4x(r:zah)(Ts Ns:List zad)(W:Nat)(E:zao->Prop)(M:Nat)(J':zav):Bool->Prop
 |true=>JAt r Ts Ns W J' r.vars/\Left r Ts Ns E r.vars J'.qx 0/\zgu W r.vars r.vars J'.qx 0<=M
 |false=>(∀ y,zsc r Ts Ns y->E (zct r.head y))/\zih r Ts Ns J'
theorem zih.ok{r:zah}{Ts Ns:List zad}{W:Nat}{J:zav}(h:zih r Ts Ns J)(hf:zdx r Ts W):zvg J:=by
 intro i
 cases hs:J.qy[i]? with
 |none =>
  have:J.qy.getD i zej.zero=zej.zero:=by simp[List.getD,hs]
  rw[this]
  intro a ha
  simp[zej.zero] at ha
 |some s =>
  have:J.qy.getD i zej.zero=s:=by simp[List.getD,hs]
  rw[this]
  have hT:=h.side hs
  have hi:i < r.qc.length:=by rw[← hf.len];exact(uat.1 hT).1
  obtain⟨⟨pth,hinv⟩,_⟩:=(hf.ok i _ _ (uac hi) hT).1
  exact hinv.node
theorem zwt{r:zah}(hr:zf2 r)(hf:zdx r Ts W)(E:zao->Prop)(A:Nat)(hA:W * (r.qc.length+1)+r.qc.length<=A) :
  ∀(n:Nat) (J:zav) (d f:Nat),JAt r Ts Ns W J d->d<=r.vars->(d < r.vars->J.from.getD d 0=f)->Left r Ts Ns E d J.qx f->zgu W r.vars d J.qx f+A < n->∃ J' b,ze9 n J (d:Nat)=some (J',b)/\z4x r Ts Ns W E (zgu W r.vars d J.qx f) J' b:=by
 intro n
 induction n with
 |zero=>intro J d f _ _ _ _ h;omega
 |succ n ih =>
  intro J d f h hd hfr hL hn
  have hv5:=hr.vars
  have hpos:=zs4 W r.vars d J.qx f
  unfold ze9
  have hjv:=h.stat.vars
  by_cases hdv:d < r.vars
  ·rw[if_pos ⟨by omega,by rw[hjv];omega,by omega⟩]
   simp only[Int.toNat_natCast]
   have hhold:=h.stat.holdsAt (show d < 5 by omega)
   have hne:J.ja.getD d []≠[]:=by
    rw[hhold]
    obtain⟨l,hl1,hl2⟩:=hr.safe d hdv
    obtain⟨i,hi,rfl⟩:=uau hl1
    intro q
    have:=holds_of (uac hi) hl2
    rw[q] at this
    cases this
   have hlen:(zb2 r d).length<=r.qc.length:=by
    unfold zb2
    refine uap (ucr _ _) ?_
    simp
   have hsz:W * ((zb2 r d).length+1)+(zb2 r d).length<=A:=by
    have:W * ((zb2 r d).length+1)<=W * (r.qc.length+1):=Nat.mul_le_mul_left _ (by omega)
    omega
   obtain⟨J1,res,a1,a2,a3⟩:=zvj W J d (J.from.getD d 0) n (by omega) (h.stat.ok hf) hne (by
    rw[hhold]
    intro x hx
    obtain⟨_,_,_,_,_,_,_,q,_⟩:=h.hold hr hf hx
    exact q) (by
    rw[hhold]
    intro x hx v hv
    obtain⟨l,s,_,q2,_,_,_,_,_,q8,_⟩:=h.hold hr hf hx
    unfold zh3 at hv
    obtain⟨b,hb⟩:=ubf.1 hv
    have:=(zgw hb).2
    rw[show J.qy.getD x.1 zej.zero=s by simp[List.getD,q2]] at this
    omega) (by rw[hhold];omega)
   rw[hhold] at a3
   rw[hfr hdv] at a1 a3
   rw[hfr hdv,a1]
   have h1:=h.same a2
   have hvals:J1.qx=J.qx:=by rw[a2]
   have hfrom:J1.from=J.from:=by rw[a2]
   have hold1:∀ x v,zh3 J1 x v=zh3 J x v:=fun x v=>zzi a2 x v
   cases res with
   |none =>
    simp only
    have hbk:J1.jg.getD d 0=zd7 r (d:Nat):=by rw[h1.stat.jg];simp[List.getD,show d < 5 by omega]
    rw[hbk]
    obtain⟨b1,b2,b3,b4,b5⟩:=zl1 r (jd:=((d:Nat):Int)) (by omega)
    have key:∀ y,zsc r Ts Ns y->(∀ p:Nat,(p:Int)<=zd7 r (d:Nat)->y.getD p 0=J.qx.getD p 0)->E (zct r.head y):=by
     intro y hy ha
     obtain⟨m1,m2⟩:=h.mix hr hf hd hy ha
     have hlow:∀ p,p < d->(z7o d J.qx y).getD p 0=J.qx.getD p 0:=fun p hp=>by rw[zwb d _ _ (by omega),if_pos hp]
     rw[← m2]
     rcases hL _ m1 with q|⟨_,q⟩|⟨i,q1,_,q3⟩
     ·exact q
     ·obtain⟨x,hx,hx2⟩:=a3 _ q
      have:=h.sol hr hf hdv m1 hlow x hx
      rw[hx2] at this
      cases this
     ·rw[hlow i q1] at q3;omega
    by_cases hneg:zd7 r (d:Nat) < 0
    ·have hbm:zd7 r (d:Nat)=-1:=by omega
     rw[hbm]
     cases n with
     |zero=>omega
     |succ n =>
      refine⟨J1,false,?_,?_,h1.stat⟩
      ·unfold ze9
       rw[if_neg (by omega)]
       have:¬ ((-1:Int) ≥ (J1.vars:Int)):=by omega
       simp[this]
      ·intro y hy
       exact key y hy fun p hp=>by omega
    ·obtain⟨b,hb⟩:∃ b:Nat,zd7 r (d:Nat)=(b:Int):=⟨(zd7 r (d:Nat)).toNat,by omega⟩
     rw[hb] at key b1 ⊢
     have hbd:b < d:=by omega
     have hM:=zpz (W:=W) (vars:=r.vars) (f:=f) (vals:=J.qx) hd hbd
     obtain⟨J',bb,s1,s2⟩:=ih J1 b (J.qx.getD b 0+1) (h1.back (by omega)) (by omega) (fun _=>by rw[hfrom,h.from b hbd]) (by
      rw[hvals]
      intro y hy
      rcases hL y hy with q|⟨q1,q2⟩|⟨i,q1,q2,q3⟩
      ·exact Or.inl q
      ·exact Or.inl (key y hy fun p hp=>q1 p (by omega))
      ·by_cases hib:i<=b
       ·refine Or.inr ?_
        by_cases hib2:i=b
        ·subst hib2
         exact Or.inl ⟨q2,by omega⟩
        ·exact Or.inr ⟨i,by omega,q2,q3⟩
       ·exact Or.inl (key y hy fun p hp=>q2 p (by omega))) (by rw[hvals];omega)
     refine⟨J',bb,s1,?_⟩
     rw[hvals] at s2
     cases bb with
     |true=>exact⟨s2.1,s2.2.1,by have:=s2.2.2;omega⟩
     |false=>exact s2
   |some v =>
    simp only
    obtain⟨c1,c2,c3⟩:=a3
    have hvW:v < W:=by
     obtain⟨x,hx⟩:=List.exists_mem_of_ne_nil _ (hhold ▸ hne)
     obtain⟨l,s,_,q2,_,_,_,_,_,q8,_⟩:=h.hold hr hf hx
     have hv:=c2 x hx
     unfold zh3 at hv
     obtain⟨b,hb⟩:=ubf.1 hv
     have:=(zgw hb).2
     rw[show J.qy.getD x.1 zej.zero=s by simp[List.getD,q2]] at this
     omega
    obtain⟨t1,t2,t3,t4,t5,t6⟩:=h1.take hr hf hdv (v:=v) (fun x hx=>by rw[hold1];exact c2 x hx) hvW
    rw[hvals] at t1
    have hvl:d < J.qx.length:=by rw[h.stat.vlen];omega
    obtain⟨m1,m2⟩:=zy5 (W:=W) (vars:=r.vars) (f:=f) (vals:=J.qx) hdv hvl c1 hvW
    have hnosol:∀ y,zsc r Ts Ns y->(∀ p,p < d->y.getD p 0=J.qx.getD p 0)->f<=y.getD d 0->v<=y.getD d 0:=by
     intro y hy ha hq
     false_or_by_contra
     rename_i hlt
     obtain⟨x,hx,hx2⟩:=c3 (y.getD d 0) hq (by omega)
     have:=h.sol hr hf hdv hy ha x hx
     rw[hx2] at this
     cases this
    have hset:∀ p,p < d->(J.qx.set d v).getD p 0=J.qx.getD p 0:=fun p hp=>by rw[zam,if_neg (by omega)]
    have hsetd:(J.qx.set d v).getD d 0=v:=by rw[zam,if_pos ⟨rfl,hvl⟩]
    by_cases hb:zb3 (zf0 J1 d v) (d+1)=true
    ·rw[if_pos hb]
     obtain⟨x,hx,hk,hm⟩:=(zrn t5.stat (d+1)).1 hb
     rw[t1] at hm
     obtain⟨J',bb,s1,s2⟩:=ih (zf0 J1 d v) d (v+1) t5 hd (fun _=>t3) (by
      rw[t1]
      intro y hy
      rcases hL y hy with q|⟨q1,q2⟩|⟨i,q1,q2,q3⟩
      ·exact Or.inl q
      ·have hge:=hnosol y hy q1 q2
       by_cases hyv:y.getD d 0=v
       ·have:=hy.2 x hx
        rw[zfy x.1 (y:=J.qx.set d v) fun p hp=>?_] at this
        ·rw[this] at hm;cases hm
        ·have hpk:=zk9 x.1 hp
         by_cases hpd:p=d
         ·rw[hpd,hsetd,hyv]
         ·rw[hset p (by omega),q1 p (by omega)]
       ·exact Or.inr (Or.inl ⟨fun p hp=>by rw[hset p hp];exact q1 p hp,by omega⟩)
      ·exact Or.inr (Or.inr ⟨i,q1,fun p hp=>by rw[hset p (by omega)];exact q2 p hp,by rw[hset i q1];exact q3⟩)) (by rw[t1];omega)
     refine⟨J',bb,s1,?_⟩
     rw[t1] at s2
     cases bb with
     |true=>exact⟨s2.1,s2.2.1,by have:=s2.2.2;omega⟩
     |false=>exact s2
    ·rw[if_neg hb]
     have hb:zb3 (zf0 J1 d v) (d+1)=false:=by simpa using hb
     have e:((d:Nat):Int)+1=((d+1:Nat):Int):=by omega
     rw[e]
     obtain⟨J',bb,s1,s2⟩:=ih (zf0 J1 d v) (d+1) 0 (t6 hb) (by omega) (fun _=>t4 (by omega)) (by
      rw[t1]
      intro y hy
      rcases hL y hy with q|⟨q1,q2⟩|⟨i,q1,q2,q3⟩
      ·exact Or.inl q
      ·have hge:=hnosol y hy q1 q2
       by_cases hyv:y.getD d 0=v
       ·refine Or.inr (Or.inl ⟨fun p hp=>?_,uaj _⟩)
        by_cases hpd:p=d
        ·rw[hpd,hsetd,hyv]
        ·rw[hset p (by omega)];exact q1 p (by omega)
       ·exact Or.inr (Or.inr ⟨d,by omega,fun p hp=>by rw[hset p hp];exact q1 p hp,by rw[hsetd];omega⟩)
      ·exact Or.inr (Or.inr ⟨i,by omega,fun p hp=>by rw[hset p (by omega)];exact q2 p hp,by rw[hset i q1];exact q3⟩)) (by rw[t1];omega)
     refine⟨J',bb,s1,?_⟩
     rw[t1] at s2
     cases bb with
     |true=>exact⟨s2.1,s2.2.1,by have:=s2.2.2;omega⟩
     |false=>exact s2
  ·have hdd:d=r.vars:=by omega
   subst hdd
   rw[if_neg (by rw[hjv];omega)]
   refine⟨J,true,by simp[hjv],h,?_,?_⟩
   ·intro y hy
    rcases hL y hy with q|⟨q1,_⟩|q
    ·exact Or.inl q
    ·exact Or.inr (Or.inl ⟨q1,uaj _⟩)
    ·exact Or.inr (Or.inr q)
   ·unfold zgu;rw[if_neg hdv,if_neg hdv];exact uaa _
end Go.Proofs.YteampbddflhngaaGreat
