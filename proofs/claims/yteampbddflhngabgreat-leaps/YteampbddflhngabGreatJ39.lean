import Derived.Test.YteampbddflhngabGreatJ38

namespace Go.Proofs.YteampbddflhngabGreat
def Small(W:Nat)(row:zaq):Prop:=∀ v∈row,v < W
theorem zx6{W:Nat}{row:zaq}(h:Small W row)(hW:0 < W)(i:Nat):row.getD i 0 < W:=by
 by_cases hi:i < row.length
 ·rw[show row.getD i 0=row[i] by simp[List.getD,hi]];exact h _ (List.getElem_mem hi)
 ·rw[show row.getD i 0=0 by simp[List.getD,hi]];exact hW
theorem zgq{W:Nat}{l:zai}{row f:zaq}(hW:0 < W)(hr:Small W row)(hf:Small W f)(i:Nat):Small W (zbq l row f i):=by
 unfold zbq
 split
 ·intro v hv
  rcases List.mem_or_eq_of_mem_set hv with q|q
  ·exact hf v q
  ·rw[q];exact zx6 hr hW i
 ·exact hf
theorem zu6{W:Nat}{l:zai}{row f:zaq}(hW:0 < W)(hr:Small W row)(hm:zbr l row=some f):f.length=3/\Small W f:=by
 unfold zbr at hm
 split at hm
 ·simp only[Option.some.injEq] at hm
  rw[← hm]
  refine⟨zhl l row,?_⟩
  unfold zc3
  have h0:Small W [0,0,0]:=by intro v hv;simp at hv;omega
  exact zgq hW hr (zgq hW hr (zgq hW hr h0 0) 1) 2
 ·cases hm
theorem zwi(T:zad)(row:zaq):zm9 T row=true↔Small T.width row:=by simp[zm9,Small]
theorem zld:∀(rs:List zaq) (T:zad),zd0 T->(∀ r∈rs,r.length=3/\Small T.width r)->T.count+rs.length<=9000000->∃ T',zdq rs T=some T'/\zd0 T'/\T'.width=T.width/\T'.depth=T.depth/\T'.count<=T.count+rs.length/\∀ k,k.length=T.depth->((zjg T' k).isSome=true↔(zjg T k).isSome=true∨∃ r∈rs,r.take T.depth=k)
 |[],T,h,_,_=>⟨T,rfl,h,rfl,rfl,by simp,fun k _=>by simp⟩
 |r::rs,T,h,hr,hc=>by
  simp only[List.length_cons] at hc
  obtain⟨h1,h2⟩:=hr r (by simp)
  obtain⟨a1,a2,a3,a4,a5,a6,a7⟩:=h.add r 0 h1 ((zwi T r).2 h2)
  have hcnt:(zfh T r 0).1.count<=T.count+1:=by
   cases hb:(zfh T r 0).2 with
   |false=>rw[a5 hb];omega
   |true=>rw[a6 hb];exact Nat.le_refl _
  obtain⟨T',b1,b2,b3,b4,b5,b6⟩:=zld rs (zfh T r 0).1 a1 (fun x hx=>by rw[a2];exact hr x (by simp[hx])) (by omega)
  unfold zdq
  rw[if_pos (h.okT (by omega))]
  refine⟨T',b1,b2,by rw[b3,a2],by rw[b4,a3],by simp only[List.length_cons];omega,fun k hk=>?_⟩
  rw[b6 k (by rw[a3];exact hk),a7 k hk,a3]
  by_cases e:k=r.take T.depth
  ·subst e
   simp
  ·rw[if_neg e]
   constructor
   ·rintro(q|⟨x,q1,q2⟩)
    ·exact Or.inl q
    ·exact Or.inr ⟨x,by simp[q1],q2⟩
   ·rintro(q|⟨x,q1,q2⟩)
    ·exact Or.inl q
    ·rcases List.mem_cons.1 q1 with rfl|q1
     ·exact absurd q2.symm e
     ·exact Or.inr ⟨x,q1,q2⟩
structure zdp (T:zad) (l:zai) (W:Nat) (P:zaq->Prop):Prop where
 ok:zd0 T
 width:T.width=W
 depth:T.depth=zbp (za7 l)
 sem:∀ k,k.length=T.depth->((zjg T k).isSome=true↔∃ row f,P row/\zbr l row=some f/\f.take T.depth=k)
theorem zdp.congr{T:zad}{l:zai}{W:Nat}{P Q:zaq->Prop}(h:zdp T l W P)(e:∀ x,P x↔Q x):zdp T l W Q :=
 ⟨h.ok,h.width,h.depth,fun k hk=>by rw[h.sem k hk];exact⟨fun⟨r,f,q⟩=>⟨r,f,(e r).1 q.1,q.2⟩,fun⟨r,f,q⟩=>⟨r,f,(e r).2 q.1,q.2⟩⟩⟩
theorem zdp.new(l:zai)(w W:Nat)(hW:W=za1 w):zdp (zfp w (za7 l)) l W (fun _=>False):=by
 refine⟨zd0.new _ _,by rw[zpl,hW],zgj _ _,fun k hk=>?_⟩
 constructor
 ·intro q
  rw[zmm _ _ k (by rintro rfl;have:=(zd5 (za7 l)).1;rw[zgj] at hk;simp at hk;omega)] at q
  cases q
 ·rintro⟨_,_,q,_⟩;exact q.elim
theorem zdp.adds{T:zad}{l:zai}{W:Nat}{P:zaq->Prop}(h:zdp T l W P)(hW:0 < W)(rows:List zaq)(hs:∀ r∈rows,Small W r)(hc:T.count+rows.length<=9000000):∃ T',zdq (rows.filterMap (zbr l)) T=some T'/\zdp T' l W (fun x=>P x∨x∈rows)/\T'.count<=T.count+rows.length:=by
 have hlen:(rows.filterMap (zbr l)).length<=rows.length:=List.length_filterMap_le _ _
 obtain⟨T',a1,a2,a3,a4,a5,a6⟩:=zld (rows.filterMap (zbr l)) T h.ok (fun r hr=>by
  obtain⟨x,hx,hm⟩:=List.mem_filterMap.1 hr
  rw[h.width]
  exact zu6 hW (hs x hx) hm) (by omega)
 refine⟨T',a1,⟨a2,by rw[a3,h.width],by rw[a4,h.depth],fun k hk=>?_⟩,by omega⟩
 rw[a4] at hk
 rw[a6 k hk,h.sem k hk,a4]
 constructor
 ·rintro(⟨r,f,q1,q2,q3⟩|⟨f,q1,q2⟩)
  ·exact⟨r,f,Or.inl q1,q2,q3⟩
  ·obtain⟨x,hx,hm⟩:=List.mem_filterMap.1 q1
   exact⟨x,f,Or.inr hx,hm,q2⟩
 ·rintro⟨r,f,q1|q1,q2,q3⟩
  ·exact Or.inl ⟨r,f,q1,q2,q3⟩
  ·exact Or.inr ⟨f,List.mem_filterMap.2 ⟨r,q1,q2⟩,q3⟩
theorem z1t{k:zaq}{d:Nat}(h:k.length=d)(h3:d<=3):(pad k d).length=3:=by simp[pad,h];omega
theorem zky{k:zaq}{d:Nat}(h:k.length=d):(pad k d).take d=k:=by simp[pad,← h]
theorem ztg{W:Nat}{k:zaq}{d:Nat}(hW:0 < W)(h:Small W k):Small W (pad k d):=by
 intro v hv
 unfold pad at hv
 rcases List.mem_append.1 hv with q|q
 ·exact h v q
 ·have:=List.mem_of_mem_drop q
  simp at this
  omega
theorem zdp.join{T U:zad}{l:zai}{W:Nat}{P Q:zaq->Prop}(h:zdp T l W P)(k:zdp U l W Q)(hW:0 < W)(hc:T.count+U.count<=9000000):∃ T',zdq ((keysT U).map fun x=>pad x U.depth) T=some T'/\zdp T' l W (fun x=>P x∨Q x)/\T'.count<=T.count+U.count:=by
 have hd:U.depth=T.depth:=by rw[h.depth,k.depth]
 have hd3:T.depth<=3:=by rw[h.depth];exact(zd5 _).2
 obtain⟨T',a1,a2,a3,a4,a5,a6⟩:=zld ((keysT U).map fun x=>pad x U.depth) T h.ok (fun r hr=>by
  obtain⟨x,hx,rfl⟩:=List.mem_map.1 hr
  obtain⟨q1,q2⟩:=(zb0 U x).1 hx
  refine⟨z1t q1 (by omega),?_⟩
  rw[h.width]
  refine ztg hW ?_
  intro v hv
  have:=zk4 x 0 q2 v hv
  rw[k.width] at this
  exact this) (by simp[k.ok.cnt];omega)
 refine⟨T',a1,⟨a2,by rw[a3,h.width],by rw[a4,h.depth],fun y hy=>?_⟩,by simpa [k.ok.cnt] using a5⟩
 rw[a4] at hy
 rw[a6 y hy,h.sem y hy,a4]
 constructor
 ·rintro(⟨r,f,q1,q2,q3⟩|⟨r,q1,q2⟩)
  ·exact⟨r,f,Or.inl q1,q2,q3⟩
  ·obtain⟨x,hx,rfl⟩:=List.mem_map.1 q1
   obtain⟨x1,x2⟩:=(zb0 U x).1 hx
   rw[← hd,zky x1] at q2
   subst q2
   obtain⟨r,f,s1,s2,s3⟩:=(k.sem x x1).1 x2
   exact⟨r,f,Or.inr s1,s2,by rw[← hd];exact s3⟩
 ·rintro⟨r,f,q1|q1,q2,q3⟩
  ·exact Or.inl ⟨r,f,q1,q2,q3⟩
  ·refine Or.inr ⟨pad y U.depth,List.mem_map.2 ⟨y,(zb0 U y).2 ⟨by omega,(k.sem y (by omega)).2 ⟨r,f,q1,q2,by rw[hd];exact q3⟩⟩,rfl⟩,?_⟩
   rw[← hd,zky (by omega)]
theorem zdp.sat{T:zad}{l:zai}{a W Wc:Nat}{P:zaq->Prop}(h:zdp T l W P)(hl:zg9 l a Wc)(hP:∀ x,P x->Canon a x)(y:List Nat):z7i T l y↔P (zcp l y):=by
 obtain⟨f,m1,m2,m3,m4⟩:=zym hl y
 have hd3:=zlg hl
 by_cases h0:za7 l=0
 ·have hd1:T.depth=1:=by rw[h.depth,h0];rfl
  have hp:zb1 l y 5=[]:=List.length_eq_zero_iff.1 (by rw[zgt,← zd4];exact h0)
  constructor
  ·intro hs
   have hc:=hs.1 h0
   rw[← h.ok.cnt] at hc
   obtain⟨k,hk⟩:=List.exists_mem_of_length_pos (Nat.pos_of_ne_zero hc)
   obtain⟨k1,k2⟩:=(zb0 T k).1 hk
   obtain⟨r,g,q1,q2,q3⟩:=(h.sem k k1).1 k2
   have:=zwu hl (hP r q1) q2 y (by rw[h0,hp];rfl)
   rw[← this];exact q1
  ·intro hP2
   refine⟨fun _ hc=>?_,fun q=>absurd h0 q⟩
   have:(zjg T (f.take T.depth)).isSome=true:=(h.sem _ (by rw[List.length_take,m2,hd1];rfl)).2 ⟨_,f,hP2,m1,rfl⟩
   have hm:f.take T.depth∈keysT T:=(zb0 T _).2 ⟨by rw[List.length_take,m2,hd1];rfl,this⟩
   have:=List.length_pos_of_mem hm
   rw[h.ok.cnt] at this
   omega
 ·have hd:T.depth=za7 l:=by rw[h.depth,zhu h0 hd3]
  have hpl:(zb1 l y 5).length=T.depth:=by rw[zgt,← zd4,hd]
  constructor
  ·intro hs
   obtain⟨r,g,q1,q2,q3⟩:=(h.sem _ hpl).1 (hs.2 h0)
   rw[hd] at q3
   have:=zwu hl (hP r q1) q2 y q3
   rw[← this];exact q1
  ·intro hP2
   exact⟨fun q=>absurd q h0,fun _=>(h.sem _ hpl).2 ⟨_,f,hP2,m1,by rw[hd];exact m3⟩⟩
structure zjm (V:zco) (l:zai) (W:Nat) (P0 P1:zaq->Prop) (Pf:zaq->Prop) (c:Nat):Prop where
 lit:V.lit=l
 before:zdp V.before l W P0
 fresh:zdp V.fresh l W Pf
 all:zdp V.all l W P1
 few:V.before.count+V.fresh.count<=c/\V.all.count<=c
theorem zn0{V:zco}{l:zai}{w W:Nat}{P0 P1 Pf:zaq->Prop}{c:Nat}(h:zjm V l W P0 P1 Pf c)(hW:W=za1 w)(rows:List zaq)(hs:∀ r∈rows,Small W r)(hc:c+rows.length<=1048576)(fuel:Nat)(hf:3 * (W+1)<=fuel):∃ V',zh6 fuel w V rows=some V'/\zjm V' l W (fun x=>P0 x∨Pf x) (fun x=>P1 x∨x∈rows) (fun x=>x∈rows) (c+rows.length):=by
 have hW0:0 < W:=by rw[hW];unfold za1;split <;> omega
 have hr:=h.fresh.ok.rowsG fuel (by rw[h.fresh.width];exact hf) (by have:=h.few.1;omega)
 obtain⟨b,b1,b2,b3⟩:=h.before.join h.fresh hW0 (by have:=h.few.1;omega)
 obtain⟨f,f1,f2,f3⟩:=(zdp.new l w W hW).adds hW0 rows hs (by simp[zfp,zb3];omega)
 obtain⟨a,a1,a2,a3⟩:=h.all.adds hW0 rows hs (by have:=h.few.2;omega)
 refine⟨{ V with before:=b,fresh:=f,all:=a },?_,h.lit,b2,f2.congr (fun x=>by simp),a2,?_⟩
 ·unfold zh6
  rw[hr,h.lit]
  simp only[b1,f1,a1]
 ·have h1:=h.few.1
  have h2:=h.few.2
  have h3:(zfp w (za7 l)).count=0:=rfl
  rw[h3] at f3
  simp only
  omega
end Go.Proofs.YteampbddflhngabGreat
namespace Go.Proofs.YteampbddflhngabGreat
open Classical
abbrev DB:=Nat->zaq->Option Nat
noncomputable def zdb(ar:List Nat)(R:zbt):DB:=fun p row=>if p < ar.length/\Canon (ar.getD p 0) row then zes (R.rows.getD p zad.zero) row else none
structure ze1 (ar:List Nat) (W:Nat) (R:zbt):Prop where
 len:R.rows.length=ar.length
 tries:∀ p (hp:p < R.rows.length),zd0 R.rows[p]/\R.rows[p].width=W/\R.rows[p].depth=zbp (ar.getD p 0)/\∀ k∈keysT R.rows[p],Canon (ar.getD p 0) (pad k R.rows[p].depth)
 cnt:R.count=(R.rows.map (·.count)).sum
theorem z4y(l:List zad):∀(p:Nat) (T:zad) (hp:p < l.length),((l.set p T).map (·.count)).sum+l[p].count=(l.map (·.count)).sum+T.count:=by
 induction l with
 |nil=>intro p T hp;simp at hp
 |cons a l ih =>
  intro p T hp
  cases p with
  |zero=>simp;omega
  |succ p =>
   have:=ih p T (by simpa using hp)
   simp at this ⊢
   omega
theorem zw6(l:List zad):∀(p:Nat) (hp:p < l.length),l[p].count<=(l.map (·.count)).sum:=by
 induction l with
 |nil=>intro p hp;simp at hp
 |cons a l ih =>
  intro p hp
  cases p with
  |zero=>simp
  |succ p =>
   have:=ih p (by simpa using hp)
   simp at this ⊢
   omega
theorem zz3{a:Nat}(h3:a<=3){x y:zaq}(hx:Canon a x)(hy:Canon a y)(e:x.take (zbp a)=y.take (zbp a)):x=y:=by
 refine zry hx hy fun i hi h=>?_
 have hd:i < zbp a:=by rw[zhu (by omega) h3];exact hi
 have:=congrArg (fun l=>l.getD i 0) e
 simpa [List.getD,List.getElem?_take,hd] using this
theorem ztf{a:Nat}(h3:a<=3){x:zaq}(hx:Canon a x):pad (x.take (zbp a)) (zbp a)=x:=by
 have hd:=zd5 a
 have hda:a<=zbp a:=by
  by_cases h0:a=0
  ·omega
  ·rw[zhu h0 h3];exact Nat.le_refl _
 show x.take (zbp a)++([0,0,0]:zaq).drop (zbp a)=x
 have hl3:x.length=3:=hx.1
 refine List.ext_getElem (by simp[hl3];omega) fun i h1 h2=>?_
 have hz:∀ i,zbp a<=i->x.getD i 0=0:=fun i hi=>hx.2 i (by omega)
 have hi3:i < 3:=by omega
 by_cases hi:i < zbp a
 ·rw[List.getElem_append_left (by simp[hl3];omega)]
  simp
 ·rw[List.getElem_append_right (by simp;omega)]
  have e1:x[i]=0:=by have:=hz i (by omega);simpa [List.getD,h2] using this
  rw[e1]
  simp only[List.getElem_drop]
  have:∀ j (hj:j < ([0,0,0]:List Nat).length),([0,0,0]:List Nat)[j]=0:=by
   intro j hj
   have hj3:j=0∨j=1∨j=2:=by simp at hj;omega
   rcases hj3 with rfl|rfl|rfl <;> rfl
  exact this _ _
structure Mid (ar:List Nat) (W k:Nat) (D0:DB) (c0:List Nat) (R:zbt):Prop where
 inv:ze1 ar W R
 rounds:R.rounds=k
 flen:R.fresh.length=ar.length
 fresh:∀ p (hp:p < R.fresh.length),R.fresh[p].Nodup/\∀ row∈R.fresh[p],Canon (ar.getD p 0) row/\Small W row/\D0 p row=none
 abs:∀ p row,zdb ar R p row=match D0 p row with
  |some m=>some m
  |none=>if row∈R.fresh.getD p [] then some k else none
 cnts:∀ p (hp:p < R.rows.length),R.rows[p].count=c0.getD p 0+(R.fresh.getD p []).length
theorem getD_lt{α:Type}{l:List α}{i:Nat}(d:α)(h:i < l.length):l.getD i d=l[i]:=by simp[List.getD,h]
theorem zr8{α:Type}(l:List α)(i j:Nat)(v d:α):(l.set i v).getD j d=if i=j/\i < l.length then v else l.getD j d:=by
 simp only[List.getD_eq_getElem?_getD,List.getElem?_set]
 by_cases h:i=j
 ·subst h
  by_cases h2:i < l.length
  ·simp[h2]
  ·simp[h2]
 ·simp[h]
theorem Mid.add{ar:List Nat}{W k:Nat}{D0:DB}{c0:List Nat}{R:zbt}(h:Mid ar W k D0 c0 R)(h3:∀ a∈ar,a<=3){p:Nat}(hp:p < ar.length){row:zaq}(hr:Canon (ar.getD p 0) row)(hs:Small W row){mr:Nat}(hc:R.count<=mr)(hm:mr<=1048576) :
  ∃ R' ok,zxg mr R p row=some (R',ok)/\Mid ar W k D0 c0 R'/\R'.moves=R.moves/\(zdb ar R' p row).isSome=true/\(∀ q x,x∈R.fresh.getD q []->x∈R'.fresh.getD q [])/\(∀ q x,x∈R'.fresh.getD q []->x∈R.fresh.getD q []∨q=p/\x=row)/\(ok=true->R'.count<=mr)/\(ok=false->R'.count > mr):=by
 have hpr:p < R.rows.length:=by rw[h.inv.len];exact hp
 have hpf:p < R.fresh.length:=by rw[h.flen];exact hp
 obtain⟨t1,t2,t3,t4⟩:=h.inv.tries p hpr
 have ha3:ar.getD p 0<=3:=by rw[getD_lt _ hp];exact h3 _ (List.getElem_mem hp)
 have hge:=zw6 R.rows p hpr
 rw[← h.inv.cnt] at hge
 have hcn:=h.cnts p hpr
 have hfit:=(zwi R.rows[p] row).2 (by rw[t2];exact hs)
 obtain⟨a1,a2,a3,a4,a5,a6,a7⟩:=t1.add row R.rounds hr.1 hfit
 have hkl:(row.take R.rows[p].depth).length=R.rows[p].depth:=by
  rw[List.length_take,hr.1,t3]
  have:=(zd5 (ar.getD p 0)).2
  omega
 have hmk:∀ x,Canon (ar.getD p 0) x->zes R.rows[p] x=zjg R.rows[p] (x.take R.rows[p].depth):=fun x hx=>t1.mark x hx.1
 have hgd:R.rows.getD p zad.zero=R.rows[p]:=getD_lt _ hpr
 have habs0:zdb ar R p row=zjg R.rows[p] (row.take R.rows[p].depth):=by
  unfold zdb
  rw[if_pos ⟨hp,hr⟩,hgd,hmk row hr]
 unfold zxg
 rw[if_pos ⟨hpr,hpf,by rw[hgd];exact t1.okT (by omega),by omega,by omega⟩,hgd]
 cases hA:zfh R.rows[p] row R.rounds with
 |mk T b =>
  rw[hA] at a1 a2 a3 a4 a5 a6 a7
  simp only at a1 a2 a3 a4 a5 a6 a7
  cases b with
  |false =>
   have hT:=a5 rfl
   subst hT
   have hset:R.rows.set p R.rows[p]=R.rows:=List.set_getElem_self hpr
   refine⟨{ R with rows:=R.rows.set p R.rows[p] },true,rfl,?_,rfl,?_,fun q x hx=>hx,fun q x hx=>Or.inl hx,fun _=>hc,fun q=>by cases q⟩
   ·rw[hset];exact h
   ·rw[hset]
    show(zdb ar R p row).isSome=true
    rw[habs0]
    rw[← Option.not_isNone,← a4];rfl
  |true =>
   have hnone:zjg R.rows[p] (row.take R.rows[p].depth)=none:=by
    cases hq:zjg R.rows[p] (row.take R.rows[p].depth) with
    |none=>rfl
    |some m=>rw[hq] at a4;cases a4
   have hD0:D0 p row=none/\row∉R.fresh.getD p []:=by
    have:=h.abs p row
    rw[habs0,hnone] at this
    cases hq:D0 p row with
    |some m=>rw[hq] at this;cases this
    |none =>
     rw[hq] at this
     refine⟨rfl,fun hm2=>?_⟩
     simp only at this
     rw[if_pos hm2] at this
     cases this
   have hfg:R.fresh.getD p []=R.fresh[p]:=getD_lt _ hpf
   have hsum:=z4y R.rows p T hpr
   have hcnt':=a6 rfl
   have hlen':(R.rows.set p T).length=R.rows.length:=by simp
   have hinv:ze1 ar W { R with rows:=R.rows.set p T,fresh:=R.fresh.set p (R.fresh.getD p []++[row]),count:=R.count+1 }:=by
    refine⟨by simp[h.inv.len],fun q hq=>?_,?_⟩
    ·simp only[List.length_set] at hq
     simp only[List.getElem_set]
     by_cases e:p=q
     ·subst e
      simp only[if_true]
      refine⟨a1,by rw[a2,t2],by rw[a3,t3],fun x hx=>?_⟩
      obtain⟨x1,x2⟩:=(zb0 T x).1 hx
      rw[a3] at x1 ⊢
      rw[a7 x x1] at x2
      by_cases ex:x=row.take R.rows[p].depth
      ·rw[ex,t3,ztf ha3 hr];exact hr
      ·rw[if_neg ex] at x2
       exact t4 x ((zb0 R.rows[p] x).2 ⟨x1,x2⟩)
     ·simp only[e,if_false]
      exact h.inv.tries q hq
    ·show R.count+1=((R.rows.set p T).map (·.count)).sum
     rw[h.inv.cnt];omega
   have hrow':∀ q,(R.rows.set p T).getD q zad.zero=if p=q then T else R.rows.getD q zad.zero:=fun q=>by
    rw[zr8]
    by_cases e:p=q
    ·rw[if_pos ⟨e,hpr⟩,if_pos e]
    ·rw[if_neg (fun x=>e x.1),if_neg e]
   have hfresh':∀ q,(R.fresh.set p (R.fresh.getD p []++[row])).getD q []=if p=q then R.fresh.getD p []++[row] else R.fresh.getD q []:=fun q=>by
    rw[zr8]
    by_cases e:p=q
    ·rw[if_pos ⟨e,hpf⟩,if_pos e]
    ·rw[if_neg (fun x=>e x.1),if_neg e]
   have habs':∀ q x,zdb ar { R with rows:=R.rows.set p T,fresh:=R.fresh.set p (R.fresh.getD p []++[row]),count:=R.count+1 } q x=if q=p/\x=row then some k else zdb ar R q x:=by
    intro q x
    unfold zdb
    simp only[hrow']
    by_cases e:p=q
    ·subst e
     simp only[if_true,true_and]
     by_cases hcx:p < ar.length/\Canon (ar.getD p 0) x
     ·rw[if_pos hcx,if_pos hcx,hgd,hmk x hcx.2,a1.mark x hcx.2.1,a3,a7 _ (by rw[List.length_take,hcx.2.1,t3];have:=(zd5 (ar.getD p 0)).2;omega)]
      by_cases ex:x=row
      ·subst ex
       rw[if_pos rfl,if_pos rfl,hnone,h.rounds]
       rfl
      ·rw[if_neg ex,if_neg]
       intro e2
       rw[t3] at e2
       exact ex (zz3 ha3 hcx.2 hr e2)
     ·rw[if_neg hcx,if_neg hcx,if_neg]
      rintro rfl
      exact hcx ⟨hp,hr⟩
    ·simp only[e,if_false]
     rw[if_neg (fun z:q=p/\x=row=>e z.1.symm)]
   refine⟨{ R with rows:=R.rows.set p T,fresh:=R.fresh.set p (R.fresh.getD p []++[row]),count:=R.count+1 },decide (R.count+1<=mr),rfl,⟨hinv,h.rounds,by simp[h.flen],fun q hq=>?_,fun q x=>?_,fun q hq=>?_⟩,rfl,?_,fun q x hx=>?_,fun q x hx=>?_,fun q=>by simpa using q,fun q=>by simpa using q⟩
   ·have hq':q < R.fresh.length:=by simpa using hq
    have e:(R.fresh.set p (R.fresh.getD p []++[row]))[q]=(R.fresh.set p (R.fresh.getD p []++[row])).getD q []:=(getD_lt _ hq).symm
    show((R.fresh.set p (R.fresh.getD p []++[row]))[q]).Nodup/\_
    rw[e,hfresh' q]
    by_cases e2:p=q
    ·subst e2
     rw[if_pos rfl,hfg]
     obtain⟨n1,n2⟩:=h.fresh p hpf
     rw[hfg] at hD0
     refine⟨?_,fun x hx=>?_⟩
     ·rw[List.nodup_append]
      exact⟨n1,by simp,fun x hx y hy=>by simp at hy;subst hy;rintro rfl;exact hD0.2 hx⟩
     ·rcases List.mem_append.1 hx with q|q
      ·exact n2 x q
      ·simp at q;subst q;exact⟨hr,hs,hD0.1⟩
    ·rw[if_neg e2,getD_lt _ hq']
     exact h.fresh q hq'
   ·rw[habs']
    show _=match D0 q x with|some m=>some m|none=>if x∈(R.fresh.set p (R.fresh.getD p []++[row])).getD q [] then some k else none
    rw[hfresh' q,h.abs q x]
    by_cases e:q=p/\x=row
    ·obtain⟨rfl,rfl⟩:=e
     rw[if_pos ⟨rfl,rfl⟩,hD0.1]
     simp
    ·rw[if_neg e]
     cases D0 q x with
     |some m=>rfl
     |none =>
      simp only
      by_cases e2:p=q
      ·subst e2
       rw[if_pos rfl]
       have:x≠row:=fun e3=>e ⟨rfl,e3⟩
       simp[this]
      ·rw[if_neg e2]
   ·have hq':q < R.rows.length:=by simpa using hq
    show(R.rows.set p T)[q].count=c0.getD q 0+((R.fresh.set p (R.fresh.getD p []++[row])).getD q []).length
    rw[hfresh' q,← getD_lt zad.zero hq,hrow' q]
    by_cases e:p=q
    ·subst e
     rw[if_pos rfl,if_pos rfl,hcnt',hcn]
     simp;omega
    ·rw[if_neg e,if_neg e,getD_lt _ hq']
     exact h.cnts q hq'
   ·rw[habs',if_pos ⟨rfl,rfl⟩];rfl
   ·show x∈(R.fresh.set p (R.fresh.getD p []++[row])).getD q []
    rw[hfresh' q]
    by_cases e:p=q
    ·subst e;rw[if_pos rfl];exact List.mem_append_left _ hx
    ·rw[if_neg e];exact hx
   ·have hx':x∈(R.fresh.set p (R.fresh.getD p []++[row])).getD q []:=hx
    rw[hfresh' q] at hx'
    by_cases e:p=q
    ·subst e
     rw[if_pos rfl] at hx'
     rcases List.mem_append.1 hx' with q|q
     ·exact Or.inl q
     ·simp at q;exact Or.inr ⟨rfl,q⟩
    ·rw[if_neg e] at hx';exact Or.inl hx'
theorem z19{r:zaf}{Ts Ns:List zad}{W:Nat}(hr:zfv r)(hf:zdo r Ts W){y:List Nat}(hy:zrf r Ts Ns y){p:Nat}(hp:p < r.vars):y.getD p 0 < W:=by
 obtain⟨l,hl,hh⟩:=hr.safe p hp
 obtain⟨i,hi,rfl⟩:=List.getElem_of_mem hl
 have hiT:i < Ts.length:=by rw[hf.len];exact hi
 obtain⟨_,_,q3⟩:=hf.ok i _ _ (List.getElem?_eq_getElem hi) (List.getElem?_eq_getElem hiT)
 have hv5:=hr.vars
 have hmem:p∈zcb r.plain[i] 5:=(zht _ 5 p).2 ⟨by omega,hh⟩
 have h0:za7 r.plain[i]≠0:=by
  rw[zd4]
  intro q
  rw[List.length_eq_zero_iff.1 q] at hmem
  cases hmem
 have hs:=(hy.1 i _ _ (List.getElem?_eq_getElem hi) (List.getElem?_eq_getElem hiT)).2 h0
 have:=zk4 _ 0 hs (y.getD p 0) (List.mem_map.2 ⟨p,hmem,rfl⟩)
 omega
theorem zp0{l:zai}{a W:Nat}(h:zg9 l a W)(hW:0 < W){y:List Nat}(hy:∀ p,zc8 l p=true->y.getD p 0 < W):Small W (zcp l y):=by
 have hc:∀ i,rowCell l y i < W:=by
  intro i
  unfold rowCell
  split
  ·rename_i hi
   rw[show l.terms.getD i ⟨false,0,0⟩=l.terms[i] by simp[List.getD,hi]]
   have hm:=List.getElem_mem hi
   unfold atT
   split
   ·rename_i hv
    simp only[Bool.and_eq_true,decide_eq_true_eq] at hv
    exact hy _ ((ze9 l _).2 ⟨_,hm,hv.1,rfl⟩)
   ·rename_i hv
    cases hq:l.terms[i].var with
    |true =>
     have:=(h.lev _ hm hq).1
     simp[hq,this] at hv
    |false=>exact h.con _ hm hq
  ·exact hW
 intro v hv
 simp only[zcp,List.mem_cons,List.not_mem_nil,or_false] at hv
 rcases hv with rfl|rfl|rfl <;> exact hc _
theorem zt8.mono{r:zaf}{Ts Ns:List zad}{W:Nat}{E E':zaq->Prop}{J:zat}{M:Nat}(h:zt8 r Ts Ns W E J M)(he:∀ x,E x->E' x):zt8 r Ts Ns W E' J M:=by
 rcases h with ⟨h1,h2,h3⟩|⟨h0,d,f,h1,h2,h3,h4,h5,h6⟩
 ·exact Or.inl ⟨h1,h2,fun y hy=>he _ (h3 y hy)⟩
 ·exact Or.inr ⟨h0,d,f,h1,h2,h3,h4,fun y hy=>(h5 y hy).imp (he _) id,h6⟩
theorem Mid.moves{ar:List Nat}{W k:Nat}{D0:DB}{c0:List Nat}{R:zbt}(h:Mid ar W k D0 c0 R)(m:Int):Mid ar W k D0 c0 { R with moves:=m } :=
 ⟨⟨h.inv.len,h.inv.tries,h.inv.cnt⟩,h.rounds,h.flen,h.fresh,h.abs,h.cnts⟩
theorem Mid.grow{ar:List Nat}{W k:Nat}{D0:DB}{c0:List Nat}{R R':zbt}(h:Mid ar W k D0 c0 R)(h':Mid ar W k D0 c0 R')(hm:∀ q x,x∈R.fresh.getD q []->x∈R'.fresh.getD q []){p:Nat}{x:zaq}(hx:(zdb ar R p x).isSome=true):(zdb ar R' p x).isSome=true:=by
 rw[h.abs] at hx
 rw[h'.abs]
 cases hq:D0 p x with
 |some m=>rfl
 |none =>
  rw[hq] at hx
  simp only at hx ⊢
  by_cases hf:x∈R.fresh.getD p []
  ·rw[if_pos (hm p x hf)];rfl
  ·rw[if_neg hf] at hx;cases hx
structure zv6 (ar:List Nat) (W k:Nat) (D0:DB) (c0:List Nat) (p mr:Nat) (sol:zaq->Prop) (R R':zbt) (ok:Bool):Prop where
 mid:Mid ar W k D0 c0 R'
 mono:∀ q x,x∈R.fresh.getD q []->x∈R'.fresh.getD q []
 sound:∀ q x,x∈R'.fresh.getD q []->x∈R.fresh.getD q []∨q=p/\sol x
 yes:ok=true->R'.count<=mr/\∀ x,sol x->(zdb ar R' p x).isSome=true
 no:ok=false->R'.count > mr
theorem zug{ar:List Nat}{W k:Nat}{D0:DB}{c0:List Nat}{r:zaf}{Ts Ns:List zad}(hr:zfv r)(hf:zdo r Ts W)(h3:∀ a∈ar,a<=3)(hW:0 < W)(hp:r.head.pred < ar.length)(hh:zg9 r.head (ar.getD r.head.pred 0) W)(A:Nat)(hA:W * (r.plain.length+1)+r.plain.length<=A){mr:Nat}(hmr:mr<=1048576) :
  ∀(n:Nat) (R:zbt) (J:zat) (M:Nat),Mid ar W k D0 c0 R->R.count<=mr->zt8 r Ts Ns W (fun x=>(zdb ar R r.head.pred x).isSome=true) J M->M+A+2 < n->∃ R' ok,zde mr r.head.pred n R J=some (R',ok)/\zv6 ar W k D0 c0 r.head.pred mr (fun x=>∃ y,zrf r Ts Ns y/\x=zcp r.head y) R R' ok:=by
 intro n
 induction n with
 |zero=>intro R J M _ _ _ h;omega
 |succ n ih =>
  intro R J M h hc hJ hn
  obtain⟨J',b,n1,n2,n3⟩:=z1f hr hf _ A hA n J M hJ (by omega)
  unfold zde
  rw[n1]
  cases b with
  |false =>
   refine⟨_,true,rfl,h.moves _,fun q x hx=>hx,fun q x hx=>Or.inl hx,fun _=>⟨hc,?_⟩,fun q=>by cases q⟩
   rintro x ⟨y,hy,rfl⟩
   exact n2 rfl y hy
  |true =>
   obtain⟨m1,m2,M',m3,m4⟩:=n3 rfl
   simp only
   rw[m2]
   have hsm:Small W (zcp r.head J'.values):=zp0 hh hW fun p hpp=>z19 hr hf m1 (hr.head p hpp)
   obtain⟨R1,ok,a1,a2,_,a4,a5,a6,a7,a8⟩:=h.add h3 hp (zi5 hh J'.values) hsm hc hmr
   rw[a1]
   cases ok with
   |false =>
    refine⟨R1,false,rfl,a2,a5,fun q x hx=>?_,(fun q=>by cases q),a8⟩
    rcases a6 q x hx with z|⟨z1,z2⟩
    ·exact Or.inl z
    ·exact Or.inr ⟨z1,J'.values,m1,z2⟩
   |true =>
    simp only
    obtain⟨R2,ok2,b1,b2⟩:=ih R1 J' M' a2 (a7 rfl) (m4.mono fun x hx=>by
     rcases hx with q|q
     ·exact h.grow a2 a5 q
     ·rw[q];exact a4) (by omega)
    refine⟨R2,ok2,b1,b2.mid,fun q x hx=>b2.mono q x (a5 q x hx),fun q x hx=>?_,b2.yes,b2.no⟩
    rcases b2.sound q x hx with z|z
    ·rcases a6 q x z with z|⟨z1,z2⟩
     ·exact Or.inl z
     ·exact Or.inr ⟨z1,J'.values,m1,z2⟩
    ·exact Or.inr z
end Go.Proofs.YteampbddflhngabGreat
