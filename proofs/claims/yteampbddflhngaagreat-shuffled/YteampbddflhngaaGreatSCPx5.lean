import Derived.Test.YteampbddflhngaaGreatS07
import Derived.Test.YteampbddflhngaaGreatS04
import Derived.Test.YteampbddflhngaaGreatS08
import Derived.Deep.OwnRows
import Derived.Test.YteampbddflhngaaGreatS43

namespace Go.Proofs.YteampbddflhngaaGreat
set_option maxRecDepth 100000
set_option maxHeartbeats 2000000
open Go.RowKit
def yba(c:Int)(n:Nat):Nat:=if c < 0 then(-(c+1)).toNat % n else c.toNat % n
theorem ydh(c:Int){n:Nat}(hn:0 < n):yba c n < n:=by unfold yba;split <;> exact Nat.mod_lt _ hn
theorem yc2(w:World)(c:Int)(n:Nat)(hn:0 < n)(hn2:n<=281474976710656)(hc:-9223372036854775808<=c/\c<=9223372036854775807) :
  Calls Tryz.prog 92 #[.int .i64 c,.int .i64 n] w fun e w'=>e=.returned (.int .i64 (yba c n:Nat))/\w'=w:=by
 obtain⟨hc1,hc2⟩:=hc
 by_cases h0:c < 0
 ·have e:-(c+1).tmod (n:Int)=((yba c n:Nat):Int):=by
   unfold yba
   rw[if_pos h0,← Int.neg_tmod,Int.tmod_eq_emod_of_nonneg (by omega),Int.natCast_emod,Int.toNat_of_nonneg (by omega)]
  have HE:Hid (-(c+1).tmod (n:Int)=((yba c n:Nat):Int)):=e
  clear e
  generalize yba c n=pk at *
  go_enter Tryz.func92,Tryz.ntmps92
  go_wp2
  exact bodyPost_ret (v:=.int .i64 (-(c+1).tmod (n:Int))) (by simp[results,Tryz.results92,go_sem]) rfl ⟨by rw[HE.out],rfl⟩
 ·have e:c % (n:Int)=((yba c n:Nat):Int):=by unfold yba;rw[if_neg h0,Int.natCast_emod,Int.toNat_of_nonneg (by omega)]
  have HE:Hid (c % (n:Int)=((yba c n:Nat):Int)):=e
  clear e
  generalize yba c n=pk at *
  go_enter Tryz.func92,Tryz.ntmps92
  go_wp2
  exact bodyPost_ret (v:=.int .i64 (c % (n:Int))) (by simp[results,Tryz.results92,go_sem]) rfl ⟨by rw[HE.out],rfl⟩
set_option maxHeartbeats 4000000
def yao(l:List Nat):Array Value:=(l.map ivN).toArray
theorem yas(l:List Nat)(k v:Nat):(yao l).setIfInBounds k (.int .i64 (v:Int))=yao (l.set k v):=by simp[yao,List.map_set,ivN]
theorem yca(n:Nat):madeCells #[.int .i64 0] n=yao (List.replicate n 0):=by
 unfold madeCells yao
 apply Array.ext
 ·simp
 ·intro i h1 h2
  simp[ivN,Nat.mod_one]
theorem yak{l:List Nat}{k:Nat}(h:k < l.length):(yao l)[k]?=some (.int .i64 (l[k]:Nat)):=by simp[yao,h,ivN]
theorem ydf{l:List Nat}{i:Nat}(h:i < l.length):l.getD i 0=l[i]:=by simp[List.getD,h]
def yb7(l:List Nat)(i j:Nat):List Nat:=(l.set i (l.getD j 0)).set j (l.getD i 0)
theorem yc8(l:List Nat)(i j:Nat):(yb7 l i j).length=l.length:=by simp[yb7]
theorem ycu{l:List Nat}{i j:Nat}(hi:i < l.length)(hj:j < l.length):(yb7 l i j).Perm l:=by
 have h:=Array.swap_perm (xs:=l.toArray) (i:=i) (j:=j) (by simpa using hi) (by simpa using hj)
 have e:(l.toArray.swap i j (by simpa using hi) (by simpa using hj)).toList=yb7 l i j:=by
  simp[yb7,Array.swap,hi,hj,List.getD]
 have:=h.toList
 rw[e] at this
 simpa using this
theorem ycw{c:Int}(n:Nat)(hc:-9223372036854775808<=c/\c<=9223372036854775807)(hn:2<=n):-9223372036854775808<=c.tdiv (n:Int)/\c.tdiv (n:Int)<=9223372036854775807:=by
 have h1:(c.tdiv (n:Int)).natAbs<=c.natAbs / 2:=by
  rw[Int.natAbs_tdiv,Int.natAbs_natCast]
  exact Nat.div_le_div_left hn (by omega)
 omega
theorem yct(w:World)(c:Int)(n:Nat)(hn:n<=1000)(hc:-9223372036854775808<=c/\c<=9223372036854775807) :
  Calls Tryz.prog 55 #[.int .i64 c,.int .i64 n] w fun e w'=>e=.returned (.slice (some ⟨w.heap.size,0,none⟩) n n)/\∃ l:List Nat,l.length=n/\l.Perm (List.range n)/\Box w' w.heap.size (yao l) 3/\Below w.heap.size w w':=by
 have hmk:=fun W:World=>run_make_row' (P:=Tryz.prog) (w:=W) 24 3 (.int .i64 0) 8 Tryz.underlying24 Tryz.infoInt rfl .i64 .i64 n (by omega) (by omega)
 have HPK:Hid (∀ W (c:Int) (m:Nat),-9223372036854775808<=c/\c<=9223372036854775807->0 < m->m<=2000->Calls Tryz.prog 92 #[.int .i64 c,.int .i64 m] W fun e w'=>∃ j,e=.returned (.int .i64 (j:Nat))/\j < m/\w'=W):=fun W c m h1 h2 h3=>(yc2 W c m h2 (by omega) h1).mono fun e w' ⟨q1,q2⟩=>⟨_,q1,ydh c h2,q2⟩
 have HDV:Hid (∀ m:Nat,2<=m->-9223372036854775808<=c.tdiv (m:Int)/\c.tdiv (m:Int)<=9223372036854775807):=fun m hm=>ycw m hc hm
 go_enter Tryz.func55,Tryz.ntmps55
 go_wp2
 go_loopw [6] (fun v6 wr=>∃(k:Nat) (l:List Nat),k<=n/\v6=.int .i64 k/\l.length=n/\Hid (∀ j (h:j < l.length),j < k->l[j]=j)/\Box wr w.heap.size (yao l) 3/\Below w.heap.size w wr) (fun v6 _=>n - (intOf v6).toNat)
 case atStart =>
  refine⟨0,List.replicate n 0,Nat.zero_le _,rfl,by simp,fun j _ h=>by omega,?_,(by go_grown)⟩
  rw[← yca]
  exact Box.new _ _ _
 case round =>
  obtain⟨k,l,hk,rfl,hll,HL,hbx,hbk⟩:=hrel
  obtain⟨hcl,hfr⟩:=hbx.rules
  have hbl:=hbx.lt
  by_cases hkl:k < n
  ·have hki:(k:Int) < (n:Int):=by omega
   have hck:=hcl k
   rw[yak (by omega)] at hck
   have hset:=hbx.set k (.int .i64 (k:Nat))
   rw[yas] at hset
   clear hcl
   go_wp2
   go_roundw
   case rel=>exact⟨k+1,l.set k k,by omega,by go_num,by simpa using hll,fun j h1 h2=>(by
    rw[List.getElem_set]
    split
    ·assumption
    ·exact HL.out j (by simpa using h1) (by omega)),hset,hbk.setCell (by simp) _⟩
   case measure=>simp[intOf];omega
  ·have hki:¬ (k:Int) < (n:Int):=by omega
   have HP:Hid (l.Perm (List.range n)):=by
    have e:l=List.range n:=List.ext_getElem (by simp[hll]) fun i h1 h2=>by
     rw[HL.out i h1 (by omega)];simp
    rw[e]
    exact List.Perm.refl _
   clear HL hcl hfr
   go_wp2
   go_loopw [7,8,9] (fun v7 _ _ wr=>∃(z:Int) (l:List Nat),-1<=z/\z < n/\v7=.int .i64 z/\l.length=n/\Hid (l.Perm (List.range n))/\Box wr w.heap.size (yao l) 3/\Below w.heap.size w wr) (fun v7 _ _ _=>(intOf v7).toNat)
   case atStart=>exact⟨(n:Int) - 1,l,by omega,by omega,by go_num,hll,HP,hbx,hbk⟩
   case round =>
    clear HP hbx hbk hll hbl
    obtain⟨z,l,hz1,hz2,rfl,hll,HP,hbx,hbk⟩:=hrel
    by_cases hz0:0 < z
    ·obtain⟨i,rfl⟩:=Int.eq_ofNat_of_zero_le (show 0<=z by omega)
     have hi:i < n:=by omega
     obtain⟨hcl,hfr⟩:=hbx.rules
     have hbl:=hbx.lt
     have hz0n:0 < i:=by omega
     have hdv:=HDV.out (i+1) (by omega)
     have hp1:=HPK.out wr _ (i+1) hdv (by omega) (by omega)
     rw[show((i+1:Nat):Int)=(i:Int)+1 by omega] at hdv hp1
     obtain⟨hdv1,hdv2⟩:=hdv
     have HP1:Hid (Calls Tryz.prog 92 #[.int .i64 (c.tdiv ((i:Int)+1)),.int .i64 ((i:Int)+1)] wr fun e w'=>∃ j,e=.returned (.int .i64 (j:Nat))/\j < i+1/\w'=wr):=hp1
     clear hp1
     have HCL:Hid (∀ j,j < n->∃ x:Nat,wr.cell? ⟨w.heap.size,j,none⟩=some (.int .i64 x)/\Hid (x=l.getD j 0)/\∃ y:Nat,(wr.setCell ⟨w.heap.size,i,none⟩ (.int .i64 x)).cell? ⟨w.heap.size,j,none⟩=some (.int .i64 y)):=fun j h=>by
      have hjl:j < l.length:=by omega
      refine⟨l[j],by rw[hcl j,yak hjl],by rw[Hid,ydf hjl],(l.set i l[j])[j]'(by simpa using hjl),?_⟩
      have h1:=(hbx.set i (.int .i64 (l[j]:Nat))).rules.1 j
      rw[yas,yak (by simpa using hjl)] at h1
      exact h1
     obtain⟨xi,hci,HXI,_⟩:=HCL.out i hi
     clear hcl
     go_wp2_with (first|(go_at_call 92;refine HP1.out.mono ?_;rintro e w5 ⟨j,rfl,hj,hww⟩;obtain rfl:=hww.symm;obtain⟨xj,hcj,HXJ,yj,hyj⟩:=HCL.out j (by omega)))
     go_roundw
     case rel =>
      have hjn:j < n:=by omega
      have h1:=(hbx.set i (.int .i64 (xj:Nat))).set j (.int .i64 (xi:Nat))
      rw[yas,yas] at h1
      have e:(l.set i xj).set j xi=yb7 l i j:=by unfold yb7;rw[← HXI.out,← HXJ.out]
      rw[e] at h1
      exact⟨(i:Int) - 1,yb7 l i j,by omega,by omega,by go_num,by rw[yc8];exact hll,(ycu (by omega) (by omega)).trans HP.out,h1,(hbk.setCell (by simp) _).setCell (by simp) _⟩
     case measure=>simp[intOf];omega
    ·go_wp2
     go_ret
     exact⟨rfl,l,hll,HP.out,hbx,hbk⟩
end Go.Proofs.YteampbddflhngaaGreat
namespace Go.Proofs.YteampbddflhngaaGreat
open Classical
theorem ycq{t t':List zaq}{l:zb2}(h0:∀ e∈t,e.stratum=0)(h:zpu t l=some t'):∀ e∈t',e.stratum=0:=by
 unfold zpu at h
 split at h
 ·split at h
  ·simp only[Option.some.injEq] at h;subst h;exact h0
  ·cases h
 ·simp only[Option.some.injEq] at h
  subst h
  intro e he
  rcases zlk.1 he with rfl|he
  ·rfl
  ·exact h0 e he
theorem ya3:∀(ls done:List zb2) (t:List zaq),Tab t done->(∀ e∈t,e.stratum=0)->(∀ x∈done++ls,∀ y∈done++ls,x.pred=y.pred->x.args.length=y.args.length)->∃ t',ls.foldl zna (some t)=some t'/\Tab t' (done++ls)/\∀ e∈t',e.stratum=0
 |[],done,t,h,h0,_=>⟨t,rfl,by simpa using h,h0⟩
 |l::ls,done,t,h,h0,ha=>by
  rw[List.foldl_cons]
  cases hq:zpu t l with
  |none =>
   exfalso
   unfold zpu at hq
   split at hq
   ·rename_i e he
    obtain⟨hm,hn⟩:=zn4 he
    split at hq
    ·cases hq
    ·rename_i har
     obtain⟨l0,hl0,hp0⟩:=(h.names e.name).1 (List.mem_map.2 ⟨e,hm,rfl⟩)
     apply har
     rw[← h.arity e hm l0 hl0 hp0]
     exact ha l0 (by simp[hl0]) l (by simp) (hp0.trans hn)
   ·cases hq
  |some t2 =>
   rw[show zna (some t) l=some t2 from hq]
   obtain⟨t',i1,i2,i3⟩:=ya3 ls (done++[l]) t2 (h.step hq) (ycq h0 hq) (by simpa [List.append_assoc] using ha)
   exact⟨t',i1,by simpa [List.append_assoc] using i2,i3⟩
theorem ycn{t:List zaq}{ls:List zb2}(h:Tab t ls){x y:zb2}(hx:x∈ls)(hy:y∈ls)(e:x.pred=y.pred):x.args.length=y.args.length:=by
 obtain⟨a,hm,hen⟩:=List.mem_map.1 ((h.names x.pred).2 ⟨x,hx,rfl⟩)
 rw[h.arity a hm x hx hen.symm,h.arity a hm y hy (e.symm.trans hen.symm)]
theorem yc9:∀ {t t':List zaq},namesT t=namesT t'->zcb (namesT t)->(∀ e∈t,∀ e'∈t',e.name=e'.name->e.arity=e'.arity/\e.stratum=e'.stratum)->t=t'
 |[],[],_,_,_=>rfl
 |[],_::_,h,_,_=>by cases h
 |_::_,[],h,_,_=>by cases h
 |⟨a,b,c⟩::r,⟨a',b',c'⟩::r',h,hr,ha=>by
  simp only[namesT,List.map_cons,List.cons.injEq] at h
  obtain⟨rfl,h⟩:=h
  obtain⟨h1,h2⟩:=ha ⟨a,b,c⟩ (by simp) ⟨a,b',c'⟩ (by simp) rfl
  simp only at h1 h2
  subst h1 h2
  rw[yc9 h (List.pairwise_cons.1 hr).2 fun e he e' he' q=>ha e (by simp[he]) e' (by simp[he']) q]
theorem ycs{cs cs2:List zab}{t0:List zaq}(h:zgo cs=some t0)(hs:∀ n k,(∃ l∈cs2.flatMap za3,l.pred=n/\l.args.length=k)↔∃ l∈cs.flatMap za3,l.pred=n/\l.args.length=k):zgo cs2=some t0:=by
 have hT:=zvz h
 have h1:∀ x∈cs.flatMap za3,∀ y∈cs.flatMap za3,x.pred=y.pred->x.args.length=y.args.length:=fun x hx y hy e=>ycn hT hx hy e
 have h2:∀ x∈cs2.flatMap za3,∀ y∈cs2.flatMap za3,x.pred=y.pred->x.args.length=y.args.length:=fun x hx y hy e=>by
  obtain⟨a,ha,a1,a2⟩:=(hs x.pred x.args.length).1 ⟨x,hx,rfl,rfl⟩
  obtain⟨b,hb,b1,b2⟩:=(hs y.pred y.args.length).1 ⟨y,hy,rfl,rfl⟩
  rw[← a2,← b2]
  exact h1 a ha b hb (by rw[a1,b1,e])
 obtain⟨u,u1,u2,u3⟩:=ya3 (cs.flatMap za3) [] [] z9e (fun e he=>by cases he) (by simpa using h1)
 obtain⟨v,v1,v2,v3⟩:=ya3 (cs2.flatMap za3) [] [] z9e (fun e he=>by cases he) (by simpa using h2)
 rw[List.nil_append] at u2 v2
 have hu:u=t0:=by unfold zgo at h;rw[u1] at h;simpa using h
 subst hu
 unfold zgo
 rw[v1]
 congr 1
 have hn:namesT v=namesT u:=zr6 v2.rise u2.rise fun n=>by
  rw[v2.names,u2.names]
  constructor
  ·rintro⟨l,hl,rfl⟩
   obtain⟨m,hm,m1,_⟩:=(hs l.pred l.args.length).1 ⟨l,hl,rfl,rfl⟩
   exact⟨m,hm,m1⟩
  ·rintro⟨l,hl,rfl⟩
   obtain⟨m,hm,m1,_⟩:=(hs l.pred l.args.length).2 ⟨l,hl,rfl,rfl⟩
   exact⟨m,hm,m1⟩
 refine yc9 hn v2.rise fun e he e' he' q=>⟨?_,by rw[v3 e he,u3 e' he']⟩
 obtain⟨l,hl,hle⟩:=(u2.names e'.name).1 (List.mem_map.2 ⟨e',he',rfl⟩)
 obtain⟨m,hm,m1,m2⟩:=(hs l.pred l.args.length).2 ⟨l,hl,rfl,rfl⟩
 rw[← u2.arity e' he' l hl hle,← v2.arity e he m hm (by rw[m1,hle,q]),m2]
theorem ydw{ps:List ByteArray}(h:zcb ps){i j:Nat}(hi:i < ps.length)(hj:j < ps.length)(e:ps[i]=ps[j]):i=j:=by
 unfold zcb at h
 rw[List.pairwise_iff_getElem] at h
 rcases Nat.lt_trichotomy i j with hl|hl|hl
 ·have:=h i j hi hj hl;rw[e,lt_irrefl] at this;cases this
 ·exact hl
 ·have:=h j i hj hi hl;rw[e,lt_irrefl] at this;cases this
theorem yb8{t:List zaq}(h:zcb (namesT t)){e:zaq}(he:e∈t):val t e.name=e.stratum:=by
 obtain⟨k,hk,rfl⟩:=List.mem_iff_getElem.1 he
 unfold val
 cases hq:zbi t t[k].name with
 |none=>exact absurd rfl (zk4 h hq t[k] (List.getElem_mem hk))
 |some e =>
  obtain⟨hp,h1,h2⟩:=zci hq
  have hj:zai t t[k].name=k:=ydw h (by simpa [namesT] using hp) (by simpa [namesT] using hk) (by simp[namesT,h1,h2])
  simp only
  rw[← h1]
  congr 1
  congr 1
theorem ybu{t:List zaq}{cs:List zab}(h:Tab t (cs.flatMap za3)):zlz t cs:=by
 intro c hc l hl
 cases he:zbi t l.pred with
 |some e=>rfl
 |none =>
  obtain⟨e,hm,hn⟩:=List.mem_map.1 ((h.names l.pred).2 ⟨l,List.mem_flatMap.2 ⟨c,hc,hl⟩,rfl⟩)
  exact absurd hn (zk4 h.rise he e hm)
theorem yb9{t:List zaq}(h:∀ e∈t,e.stratum=0)(n:ByteArray):val t n=0:=by
 unfold val;split
 ·rename_i e he;exact h e (zn4 he).1
 ·rfl
theorem ybh{cs:List zab}{t0:List zaq}(h:zgo cs=some t0):∀ e∈t0,e.stratum=0:=by
 have hT:=zvz h
 obtain⟨u,u1,u2,u3⟩:=ya3 (cs.flatMap za3) [] [] z9e (fun e he=>by cases he) (fun x hx y hy e=>ycn hT (by simpa using hx) (by simpa using hy) e)
 have hu:u=t0:=by unfold zgo at h;rw[u1] at h;simpa using h
 subst hu
 exact u3
theorem Parts.least{cs:List zab}{t0 t:List zaq}(h:Parts cs t0 t):Least cs (val t):=by
 have:=(z4s (ybu h.tab) (yb9 (ybh h.coll))).2 (by rw[h.strat])
 rwa [h.strat] at this
theorem Parts.nam{cs:List zab}{t0 t:List zaq}(h:Parts cs t0 t):namesT t=namesT t0/\arT t=arT t0:=by
 have h1:=zw6 (t0.length+1) t0 cs (ybu h.tab)
 have h2:=ziw (t0.length+1) t0 cs
 rw[h.strat] at h1 h2
 exact⟨h1,h2⟩
theorem ydi{t t':List zaq}(hr:zcb (namesT t))(hr':zcb (namesT t'))(ha:arT t=arT t')(hv:∀ n,val t n=val t' n):t=t':=by
 apply List.ext_getElem
 ·have:=congrArg List.length ha;simpa [arT] using this
 ·intro i h1 h2
  have q:(arT t)[i]'(by simpa [arT] using h1)=(arT t')[i]'(by simpa [arT] using h2):=by simp only[ha]
  simp only[arT,List.getElem_map,Prod.mk.injEq] at q
  have q3:=hv t[i].name
  rw[yb8 hr (List.getElem_mem h1),q.1,yb8 hr' (List.getElem_mem h2)] at q3
  generalize t[i]=x at *
  generalize t'[i]=y at *
  obtain⟨a,b,c⟩:=x
  obtain⟨a',b',c'⟩:=y
  simp only at q q3
  obtain⟨rfl,rfl⟩:=q
  rw[q3]
theorem ych{cs cs2:List zab}{t0 t:List zaq}(h:Parts cs t0 t)(hc:zgo cs2=some t0)(hs:∀ f,Sol cs2 f↔Sol cs f):zcz (t0.length+1) t0 cs2=(t,true):=by
 have hT:=zvz hc
 have hi:=z4s (ybu hT) (yb9 (ybh hc))
 have ht:(zcz (t0.length+1) t0 cs2).2=true:=hi.1.2 ⟨_,(hs _).2 h.least.1⟩
 have hl:=hi.2 ht
 have hn:=zw6 (t0.length+1) t0 cs2 (ybu hT)
 have ha:=ziw (t0.length+1) t0 cs2
 generalize zcz (t0.length+1) t0 cs2=z at *
 obtain⟨t2,b⟩:=z
 simp only at ht hl hn ha
 subst ht
 congr 1
 refine ydi (by rw[hn];exact hT.rise) (by rw[h.nam.1];exact hT.rise) (ha.trans h.nam.2.symm) fun n=>?_
 exact Nat.le_antisymm (hl.2 _ ((hs _).2 h.least.1) n) (h.least.2 _ ((hs _).1 hl.1) n)
theorem Parts.alike{cs cs2:List zab}{t0 t:List zaq}(h:Parts cs t0 t)(few:prW cs2<=500)(many:∀ c∈cs2,zen c=false)(safe:∀ c∈cs2,ze7 c=true)(hs:∀ n k,(∃ l∈cs2.flatMap za3,l.pred=n/\l.args.length=k)↔∃ l∈cs.flatMap za3,l.pred=n/\l.args.length=k)(hf:∀ f,Sol cs2 f↔Sol cs f):Parts cs2 t0 t :=
 have hc:=ycs h.coll hs
 ⟨few,many,hc,zvz hc,safe,ych h hc hf⟩
theorem ybw{cs cs2:List zab}{t0 t t0':List zaq}(h:Parts cs t0 t)(h2:Parts cs2 t0' t)(ns:List ByteArray)(hst:∀ s D p x,z92 t ns cs s D p x↔z92 t ns cs2 s D p x)(hem:∀ s,(∃ c∈cs,0 < c.body.length/\zdx t c.head.pred=s)↔∃ c∈cs2,0 < c.body.length/\zdx t c.head.pred=s)(hfa:∀ f,f∈zer t ns cs↔f∈zer t ns cs2)(mr mx:Nat):zj0 (zjy t ns none cs) mr mx=zj0 (zjy t ns none cs2) mr mx:=by
 have he:∀(cs:List zab) s,((zeu t ns none cs).filter fun r=>decide (r.stratum=s))=[]↔¬ ∃ c∈cs,0 < c.body.length/\zdx t c.head.pred=s:=by
  intro cs s
  rw[List.filter_eq_nil_iff]
  constructor
  ·rintro q ⟨c,hc,hb,hs⟩
   obtain⟨i,hi,rfl⟩:=List.mem_iff_getElem.1 hc
   have:=q _ (zql.2 ⟨i,hi,hb,rfl⟩)
   exact this (decide_eq_true hs)
  ·intro q r hr
   obtain⟨i,hi,hb,rfl⟩:=zql.1 hr
   exact fun e=>q ⟨_,List.getElem_mem hi,hb,of_decide_eq_true e⟩
 have hp:∀ {cs:List zab} {t0 t:List zaq},Parts cs t0 t->∀ i (hi:i < cs.length),ziq (za6 ((zd4 none i).getD [])) (zaf cs[i]).length:=fun h i hi=>zqv (zgb (h.many _ (List.getElem_mem hi)))
 have hF:zj1 (zer t ns cs)=zj1 (zer t ns cs2):=by
  funext p x
  unfold zj1
  simp only[hfa]
 unfold zj0
 show(if zrk (zj1 (zer t ns cs)) mr then zdm (zeu t ns none cs) mr mx (t.map (·.arity)).length 0 0 (zj1 (zer t ns cs)) else none)=(if zrk (zj1 (zer t ns cs2)) mr then zdm (zeu t ns none cs2) mr mx (t.map (·.arity)).length 0 0 (zj1 (zer t ns cs2)) else none)
 rw[hF,zpg (fun s D p x=>((z9z h ns none (hp h) s D p x).trans (hst s D p x)).trans (z9z h2 ns none (hp h2) s D p x).symm) (fun s=>(he cs s).trans ((not_congr (hem s)).trans (he cs2 s).symm))]
theorem Parts.same{cs cs2:List zab}{t0 t:List zaq}(h:Parts cs t0 t)(hm:∀ c,c∈cs2↔c∈cs)(few:prW cs2<=500):Parts cs2 t0 t:=by
 have hl:∀ l,l∈cs2.flatMap za3↔l∈cs.flatMap za3:=fun l=>by simp only[List.mem_flatMap,hm]
 exact h.alike few (fun c hc=>h.many c ((hm c).1 hc)) (fun c hc=>h.safe c ((hm c).1 hc)) (fun n k=>by simp only[hl]) (fun f=>by unfold Sol;simp only[hm])
theorem yb2{cs cs2:List zab}(hm:∀ c,c∈cs2↔c∈cs):zaw cs2=zaw cs :=
 zr6 (zk2 cs2).1 (zk2 cs).1 fun y=>by rw[(zk2 cs2).2,(zk2 cs).2];simp only[hm]
theorem ycp{cs cs2:List zab}{t0 t:List zaq}(h:Parts cs t0 t)(hm:∀ c,c∈cs2↔c∈cs)(few:prW cs2<=500)(ns:List ByteArray)(mr mx:Nat):zj0 (zjy t ns none cs) mr mx=zj0 (zjy t ns none cs2) mr mx :=
 ybw h (h.same hm few) ns (fun s D p x=>by unfold z92;simp only[hm]) (fun s=>by simp only[hm]) (fun f=>by unfold zer;simp only[List.mem_map,List.mem_filter,hm]) mr mx
end Go.Proofs.YteampbddflhngaaGreat
namespace Go.Proofs.YteampbddflhngaaGreat
def ya9(x:ByteArray):Int:=zik (bAt x 0) (bAt x 1)
def ydo(x:ByteArray):Tok:=(ya9 x,x)
structure yan where
 op:ByteArray
 shut:ByteArray
 comma:ByteArray
 dot:ByteArray
 bang:ByteArray
 arrow:ByteArray
def ya6(S:yan):List ByteArray->List Tok
 |[]=>[]
 |[x]=>[ydo x]
 |x::y::r=>ydo x::(6,S.comma)::ya6 S (y::r)
def yal(S:yan)(l:zb2):List Tok:=(1,l.pred)::(if l.args=[] then [] else(4,S.op)::(ya6 S l.args++[(5,S.shut)]))
def ycx(S:yan)(l:zb2):List Tok:=if l.neg then(8,S.bang)::yal S l else yal S l
def yav(S:yan):List zb2->List Tok
 |[]=>[]
 |[l]=>ycx S l
 |l::m::r=>ycx S l++(6,S.comma)::yav S (m::r)
def clK(S:yan)(c:zab):List Tok:=yal S c.head++((if c.body=[] then [] else(9,S.arrow)::yav S c.body)++[(7,S.dot)])
def yad(S:yan)(cs:List zab):List Tok:=cs.flatMap (clK S)
def ybp(l:zb2):Prop:=∀ x∈l.args,isT (ya9 x)=true
def ydb(c:zab):Prop:=c.head.neg=false/\ybp c.head/\∀ l∈c.body,ybp l
theorem ybo(S:yan):∀(bs:List ByteArray) (r:List Tok),bs≠[]->(∀ x∈bs,isT (ya9 x)=true)->hdK r≠6->zbv (ya6 S bs++r)=some (bs,r)
 |[],_,h,_,_=>absurd rfl h
 |[x],r,_,hx,h6=>zwr (hx x (by simp)) h6
 |x::y::bs,r,_,hx,h6=>by
  have ih:=ybo S (y::bs) r (by simp) (fun z hz=>hx z (by simp[List.mem_cons.1 hz])) h6
  show zbv ((ya9 x,x)::(6,S.comma)::(ya6 S (y::bs)++r))=_
  rw[zwq (hx x (by simp)) rfl]
  show(zbv (ya6 S (y::bs)++r)).map _=_
  rw[ih]
  rfl
theorem ybs(x:Tok)(r:List Tok):hdK (x::r)=x.1:=rfl
theorem yay(S:yan)(l:zb2)(r:List Tok)(hw:ybp l)(h4:hdK r≠4):zei (yal S l++r)=some ({ l with neg:=false },r):=by
 unfold yal zei
 by_cases ha:l.args=[]
 ·simp only[if_pos ha,List.cons_append,List.nil_append,ybs,List.tail_cons,List.headD_cons,if_true,if_neg h4]
  rw[← ha]
 ·have q:zbv (ya6 S l.args++((5,S.shut)::r))=some (l.args,(5,S.shut)::r):=ybo S l.args ((5,S.shut)::r) ha hw (by simp[hdK])
  simp only[if_neg ha,List.cons_append,List.append_assoc,List.nil_append,ybs,List.tail_cons,List.headD_cons,if_true,q]
theorem ycl(S:yan)(l:zb2)(r:List Tok)(hw:ybp l)(h4:hdK r≠4):zsl (ycx S l++r)=some (l,r):=by
 unfold zsl ycx
 cases hn:l.neg with
 |true =>
  simp only[if_true]
  show(if hdK ((8,S.bang)::(yal S l++r))=8 then(zei (yal S l++r)).map _ else _)=_
  rw[if_pos (show hdK ((8,S.bang)::(yal S l++r))=8 from rfl),yay S l r hw h4]
  show some (({ l with neg:=true }:zb2),r)=_
  rw[← hn]
 |false =>
  simp only[Bool.false_eq_true,if_false]
  have h8:¬ hdK (yal S l++r)=8:=by unfold yal;show ¬ (1:Int)=8;decide
  rw[if_neg h8,yay S l r hw h4,← hn]
theorem yb0(S:yan):∀(n:Nat) (b:List zb2) (r:List Tok),b≠[]->b.length<=n->(∀ l∈b,ybp l)->hdK r≠4->hdK r≠6->ze4 n (yav S b++r)=some (b,r)
 |_,[],_,h,_,_,_,_=>absurd rfl h
 |0,l::b,_,_,hn,_,_,_=>by simp at hn
 |n+1,[l],r,_,_,hw,h4,h6=>zmh (ycl S l r (hw l (by simp)) h4) h6
 |n+1,l::m::b,r,_,hn,hw,h4,h6=>by
  have ih:=yb0 S n (m::b) r (by simp) (by simp at hn ⊢;omega) (fun z hz=>hw z (by simp[List.mem_cons.1 hz])) h4 h6
  have e:yav S (l::m::b)++r=ycx S l++((6,S.comma)::(yav S (m::b)++r)):=by simp[yav]
  rw[e,zmg (ycl S l _ (hw l (by simp)) (by simp[hdK])) rfl]
  show(ze4 n (yav S (m::b)++r)).map _=_
  rw[ih]
  rfl
theorem ycc(S:yan)(n:Nat)(c:zab)(r:List Tok)(hw:ydb c)(hn:c.body.length<=n):ze5 n (clK S c++r)=some (c,r):=by
 unfold ze5 clK
 obtain⟨hd,hb⟩:=c
 obtain⟨hg,hp,hs⟩:=hd
 obtain⟨h1,h2,h3⟩:=hw
 simp only at h1 h2 h3 hn
 subst h1
 by_cases hb0:hb=[]
 ·subst hb0
  simp only[if_true,List.append_assoc]
  rw[yay S _ _ h2 (by simp[hdK])]
  simp[hdK]
 ·simp only[if_neg hb0,List.append_assoc]
  rw[yay S _ _ h2 (by simp[hdK])]
  simp only[List.cons_append,ybs,List.tail_cons,if_true]
  rw[yb0 S n hb _ hb0 hn h3 (by simp[hdK]) (by simp[hdK])]
  simp[hdK]
theorem ybb(S:yan)(n:Nat):∀(m:Nat) (cs:List zab),(∀ c∈cs,ydb c/\c.body.length<=n)->cs.length<=m->zex n m (yad S cs)=some cs
 |_,[],_,_=>by unfold yad;simp[zex]
 |0,c::cs,_,h=>by simp at h
 |m+1,c::cs,hw,h=>by
  have ih:=ybb S n m cs (fun z hz=>hw z (by simp[hz])) (by simp at h;omega)
  have e:yad S (c::cs)=clK S c++yad S cs:=by simp[yad]
  rw[e,zun (by unfold clK yal;simp) (ycc S n c _ (hw c (by simp)).1 (hw c (by simp)).2),ih]
  rfl
def byt(b:UInt8):Int:=(b.toNat:Int)
def hdB:List UInt8->Int
 |[]=>0
 |b::_=>byt b
def yaj(l:List UInt8)(k:Int):Nat:=if k=9 then 2 else if k=1∨k=2 then(l.takeWhile fun b=>bLD (byt b)).length else if k=3 then(l.takeWhile fun b=>zvv (byt b)).length else 1
def yai:Nat->List UInt8->Option (List Tok)
 |0,_=>some []
 |_+1,[]=>some []
 |n+1,a::l =>
  if zmq (byt a) then yai n l
  else if zik (byt a) (hdB l)=0 then none
  else if 6 < yaj (a::l) (zik (byt a) (hdB l)) then none
  else(yai n ((a::l).drop (yaj (a::l) (zik (byt a) (hdB l))))).map ((zik (byt a) (hdB l),(⟨((a::l).take (yaj (a::l) (zik (byt a) (hdB l)))).toArray⟩:ByteArray))::·)
theorem yaz(s:ByteArray)(i:Nat):bAt s i=hdB (s.data.toList.drop i):=by
 unfold bAt
 split
 ·rename_i h
  have h':i < s.data.toList.length:=by simpa using h
  rw[List.drop_eq_getElem_cons h']
  simp[hdB,byt,ByteArray.getElem_eq_getElem_data]
 ·rename_i h
  rw[List.drop_eq_nil_of_le (by have:s.data.toList.length=s.size:=(by rw[Array.length_toList];rfl);omega)]
  rfl
theorem ybc(p:Int->Bool)(s:ByteArray):∀(n i:Nat),s.size - i<=n->zc5 p s i=i+((s.data.toList.drop i).takeWhile fun b=>p (byt b)).length:=by
 have hsz:s.data.toList.length=s.size:=by rw[Array.length_toList];rfl
 intro n
 induction n with
 |zero =>
  intro i h
  rw[zid (by omega),List.drop_eq_nil_of_le (by omega)]
  simp
 |succ n ih =>
  intro i h
  by_cases hi:i < s.size
  ·have hb:=yaz s i
   rw[List.drop_eq_getElem_cons (by omega)] at hb ⊢
   simp only[hdB] at hb
   cases hp:p (bAt s i) with
   |false =>
    rw[zo1 hp,List.takeWhile_cons,← hb,hp]
    simp
   |true =>
    rw[zjo hi hp,ih (i+1) (by omega),List.takeWhile_cons,← hb,hp]
    simp
    omega
  ·rw[zid hi,List.drop_eq_nil_of_le (by omega)]
   simp
theorem ydd{s:ByteArray}{i:Nat}{k:Int}(hk:k≠0):zn3 s i k=i+yaj (s.data.toList.drop i) k:=by
 unfold zn3 yaj
 rw[if_neg hk]
 split
 ·rfl
 ·split
  ·exact ybc bLD s _ i (Nat.le_refl _)
  ·split
   ·exact ybc zvv s _ i (Nat.le_refl _)
   ·rfl
theorem ya2(s:ByteArray)(i m:Nat):s.extract i (i+m)=⟨((s.data.toList.drop i).take m).toArray⟩:=by
 apply ByteArray.ext
 rw[ByteArray.data_extract]
 apply Array.ext'
 simp[List.take_drop]
theorem ybm(s:ByteArray):∀(n i:Nat),splitN n s i=yai n (s.data.toList.drop i):=by
 have hsz:s.data.toList.length=s.size:=by rw[Array.length_toList];rfl
 intro n
 induction n with
 |zero=>intro i;rfl
 |succ n ih =>
  intro i
  by_cases hi:i < s.size
  ·have hb:=yaz s i
   have hb1:=yaz s (i+1)
   have he:∀ k,k≠0->zn3 s i k=i+yaj (s.data.toList.drop i) k:=fun k hk=>ydd hk
   have hx:∀ m,s.extract i (i+m)=⟨((s.data.toList.drop i).take m).toArray⟩:=ya2 s i
   have hdr:∀ m,s.data.toList.drop (i+m)=(s.data.toList.drop i).drop m:=fun m=>by rw[List.drop_drop]
   have hc:=List.drop_eq_getElem_cons (l:=s.data.toList) (i:=i) (by omega)
   unfold splitN
   rw[if_pos hi]
   rw[hc] at hb he hx hdr ⊢
   unfold yai
   simp only[hdB] at hb
   rw[hb,hb1,ih]
   split
   ·rfl
   ·split
    ·rfl
    ·rename_i hk
     generalize zik (byt s.data.toList[i]) (hdB (List.drop (i+1) s.data.toList))=k at *
     rw[he k hk]
     generalize yaj (s.data.toList[i]::List.drop (i+1) s.data.toList) k=m at *
     rw[Nat.add_sub_cancel_left,hx m,ih,hdr m]
  ·rw[zw4 hi,List.drop_eq_nil_of_le (by omega)]
   rfl
theorem ydt{a b:List Tok}(o:Option (List Tok)):(o.map (b++·)).map (a++·)=o.map ((a++b)++·):=by cases o <;> simp
structure yco (x:List UInt8):Prop where
 ne:x≠[]
 six:x.length<=6
 kind:(zsy (hdB x)=true∨z7x (hdB x)=true)/\(∀ b∈x,bLD (byt b)=true)∨zvv (hdB x)=true/\∀ b∈x,zvv (byt b)=true
def bl(x:ByteArray):List UInt8:=x.data.toList
theorem ydm(a b:ByteArray):bl (a++b)=bl a++bl b:=by simp[bl,ByteArray.data_append]
def signs:yan:=⟨⟨#[40]⟩,⟨#[41]⟩,⟨#[44]⟩,⟨#[46]⟩,⟨#[33]⟩,⟨#[58,45]⟩⟩
def ya5(l:zb2):Prop:=(yco (bl l.pred)/\zsy (hdB (bl l.pred))=true)/\∀ x∈l.args,yco (bl x)
def yax(c:zab):Prop:=c.head.neg=false/\ya5 c.head/\∀ l∈c.body,ya5 l
theorem ydj{x:ByteArray}(h:yco (bl x)):isT (ya9 x)=true:=by
 unfold ya9
 rw[yaz]
 show isT (zik (hdB (bl x)) _)=true
 unfold zik
 rcases h.kind with ⟨hk|hk,_⟩|⟨hk,_⟩
 ·simp[hk,isT]
 ·by_cases hs:zsy (hdB (bl x))=true <;> simp[hk,hs,isT]
 ·by_cases hs:zsy (hdB (bl x))=true
  ·simp[hs,isT]
  ·by_cases hc:z7x (hdB (bl x))=true <;> simp[hk,hs,hc,isT]
def ydl(x:Tok):Prop:=isT x.1=true->yco (bl x.2)/\(x.1=1->zsy (hdB (bl x.2))=true)
theorem yae(p:UInt8->Bool)(l:List UInt8):l.take (l.takeWhile p).length=l.takeWhile p:=by
 induction l with
 |nil=>rfl
 |cons a l ih =>
  rw[List.takeWhile_cons]
  split
  ·simp[ih]
  ·rfl
theorem yaf{p:UInt8->Bool}:∀ {l:List UInt8} {b:UInt8},b∈l.takeWhile p->p b=true
 |[],_,h=>by simp at h
 |a::l,b,h=>by
  rw[List.takeWhile_cons] at h
  split at h
  ·rename_i ha
   rcases List.mem_cons.1 h with rfl|h
   ·exact ha
   ·exact yaf h
  ·cases h
theorem ya1:∀(n:Nat) (l:List UInt8) (ts:List Tok),yai n l=some ts->∀ x∈ts,ydl x
 |0,_,ts,h,x,hx=>by simp[yai] at h;subst h;cases hx
 |_+1,[],ts,h,x,hx=>by simp[yai] at h;subst h;cases hx
 |n+1,a::l,ts,h,x,hx=>by
  unfold yai at h
  split at h
  ·exact ya1 n l ts h x hx
  ·split at h
   ·cases h
   ·rename_i hk
    split at h
    ·cases h
    ·rename_i h6
     obtain⟨us,hu,rfl⟩:=Option.map_eq_some_iff.1 h
     rcases List.mem_cons.1 hx with rfl|hx
     ·intro ht
      simp only at ht ⊢
      have hbl:∀ m,bl (⟨((a::l).take m).toArray⟩:ByteArray)=(a::l).take m:=fun m=>by simp[bl]
      rw[hbl]
      generalize hK:zik (byt a) (hdB l)=k at *
      unfold zik at hK
      by_cases hs:zsy (byt a)=true
      ·rw[if_pos hs] at hK
       subst hK
       have e:yaj (a::l) 1=((a::l).takeWhile fun b=>bLD (byt b)).length:=rfl
       rw[e] at h6 ⊢
       rw[yae]
       have hh:(a::l).takeWhile (fun b=>bLD (byt b))=a::l.takeWhile (fun b=>bLD (byt b)):=by rw[List.takeWhile_cons,if_pos (by simp[bLD,hs])]
       refine⟨⟨by rw[hh];simp,by omega,Or.inl ⟨Or.inl (by rw[hh];exact hs),fun b hb=>yaf (p:=fun b=>bLD (byt b)) hb⟩⟩,fun _=>by rw[hh];exact hs⟩
      ·rw[if_neg hs] at hK
       by_cases hc:z7x (byt a)=true
       ·rw[if_pos hc] at hK
        subst hK
        have e:yaj (a::l) 2=((a::l).takeWhile fun b=>bLD (byt b)).length:=rfl
        rw[e] at h6 ⊢
        rw[yae]
        have hh:(a::l).takeWhile (fun b=>bLD (byt b))=a::l.takeWhile (fun b=>bLD (byt b)):=by rw[List.takeWhile_cons,if_pos (by simp[bLD,hc])]
        exact⟨⟨by rw[hh];simp,by omega,Or.inl ⟨Or.inr (by rw[hh];exact hc),fun b hb=>yaf (p:=fun b=>bLD (byt b)) hb⟩⟩,fun q=>by cases q⟩
       ·rw[if_neg hc] at hK
        by_cases hd:zvv (byt a)=true
        ·rw[if_pos hd] at hK
         subst hK
         have e:yaj (a::l) 3=((a::l).takeWhile fun b=>zvv (byt b)).length:=rfl
         rw[e] at h6 ⊢
         rw[yae]
         have hh:(a::l).takeWhile (fun b=>zvv (byt b))=a::l.takeWhile (fun b=>zvv (byt b)):=by rw[List.takeWhile_cons,if_pos (by simp[hd])]
         exact⟨⟨by rw[hh];simp,by omega,Or.inr ⟨by rw[hh];exact hd,fun b hb=>yaf (p:=fun b=>zvv (byt b)) hb⟩⟩,fun q=>by cases q⟩
        ·exfalso
         rw[if_neg hd] at hK
         split at hK
         ·subst hK;simp[isT] at ht
         ·unfold z5q at hK
          (repeat' split at hK) <;> subst hK <;> simp[isT] at ht
     ·exact ya1 n _ us hu x hx
theorem ybe:∀(r:List Tok) {ts:List ByteArray} {r2:List Tok},zbv r=some (ts,r2)->(∀ x∈r,ydl x)->(∀ y∈ts,yco (bl y))/\∀ x∈r2,x∈r
 |[],_,_,h,_=>by simp[zbv] at h
 |[x],ts,r2,h,ht=>by
  simp only[zbv] at h
  split at h
  ·rename_i hq
   simp only[Option.some.injEq,Prod.mk.injEq] at h
   obtain⟨rfl,rfl⟩:=h
   exact⟨fun y hy=>by simp at hy;subst hy;exact(ht x (by simp) hq).1,by simp⟩
  ·cases h
 |x::y::r,ts,r2,h,ht=>by
  simp only[zbv] at h
  split at h
  ·rename_i hq
   split at h
   ·obtain⟨z,hz,he⟩:=Option.map_eq_some_iff.1 h
    simp only[Prod.mk.injEq] at he
    obtain⟨rfl,rfl⟩:=he
    obtain⟨i1,i2⟩:=ybe r (ts:=z.1) (r2:=z.2) hz (fun u hu=>ht u (by simp[hu]))
    refine⟨fun u hu=>?_,fun u hu=>by simp[i2 u hu]⟩
    rcases List.mem_cons.1 hu with rfl|hu
    ·exact(ht x (by simp) hq).1
    ·exact i1 u hu
   ·simp only[Option.some.injEq,Prod.mk.injEq] at h
    obtain⟨rfl,rfl⟩:=h
    exact⟨fun u hu=>by simp at hu;subst hu;exact(ht x (by simp) hq).1,fun u hu=>by simp[List.mem_cons.1 hu]⟩
  ·cases h
theorem yac{x:Tok}{r:List Tok}(h:x∈r.tail):x∈r:=by
 cases r with
 |nil=>exact h
 |cons a r=>simp at h;simp[h]
theorem ya0{r:List Tok}{l:zb2}{r2:List Tok}(h:zei r=some (l,r2))(ht:∀ x∈r,ydl x):l.neg=false/\ya5 l/\∀ x∈r2,x∈r:=by
 unfold zei at h
 split at h
 ·rename_i h1
  cases r with
  |nil=>simp[hdK] at h1
  |cons a r =>
   have ha:a.1=1:=h1
   have hw:=ht a (by simp) (by rw[ha];rfl)
   have hp:yco (bl a.2)/\zsy (hdB (bl a.2))=true:=⟨hw.1,hw.2 ha⟩
   change (if hdK r=4 then(match zbv r.tail with|none=>none|some (ts,r2)=>if hdK r2=5 then some ((⟨false,a.2,ts⟩:zb2),r2.tail) else none) else some ((⟨false,a.2,[]⟩:zb2),r))=some (l,r2) at h
   by_cases h4:hdK r=4
   ·rw[if_pos h4] at h
    cases hq:zbv r.tail with
    |none=>rw[hq] at h;cases h
    |some z =>
     obtain⟨ts,r3⟩:=z
     rw[hq] at h
     simp only at h
     by_cases h5:hdK r3=5
     ·rw[if_pos h5] at h
      simp only[Option.some.injEq,Prod.mk.injEq] at h
      obtain⟨rfl,rfl⟩:=h
      obtain⟨i1,i2⟩:=ybe _ hq (fun u hu=>ht u (by simp[yac hu]))
      exact⟨rfl,⟨hp,i1⟩,fun u hu=>by simp[yac (i2 u (yac hu))]⟩
     ·rw[if_neg h5] at h;cases h
   ·rw[if_neg h4] at h
    simp only[Option.some.injEq,Prod.mk.injEq] at h
    obtain⟨rfl,rfl⟩:=h
    exact⟨rfl,⟨hp,fun y hy=>by cases hy⟩,fun u hu=>by simp[hu]⟩
 ·cases h
theorem yc4{r:List Tok}{l:zb2}{r2:List Tok}(h:zsl r=some (l,r2))(ht:∀ x∈r,ydl x):ya5 l/\∀ x∈r2,x∈r:=by
 unfold zsl at h
 split at h
 ·obtain⟨z,hz,he⟩:=Option.map_eq_some_iff.1 h
  simp only[Prod.mk.injEq] at he
  obtain⟨rfl,rfl⟩:=he
  obtain⟨_,i2,i3⟩:=ya0 (l:=z.1) (r2:=z.2) hz (fun u hu=>ht u (yac hu))
  exact⟨i2,fun u hu=>yac (i3 u hu)⟩
 ·exact(ya0 h ht).2
theorem ybg:∀(n:Nat) {r:List Tok} {b:List zb2} {r2:List Tok},ze4 n r=some (b,r2)->(∀ x∈r,ydl x)->(∀ l∈b,ya5 l)/\∀ x∈r2,x∈r
 |0,_,_,_,h,_=>by cases h
 |n+1,r,b,r2,h,ht=>by
  unfold ze4 at h
  split at h
  ·cases h
  ·rename_i a r3 hq
   obtain⟨i1,i2⟩:=yc4 hq ht
   split at h
   ·obtain⟨z,hz,he⟩:=Option.map_eq_some_iff.1 h
    simp only[Prod.mk.injEq] at he
    obtain⟨rfl,rfl⟩:=he
    obtain⟨j1,j2⟩:=ybg n (b:=z.1) (r2:=z.2) hz (fun u hu=>ht u (i2 u (yac hu)))
    refine⟨fun l hl=>?_,fun u hu=>i2 u (yac (j2 u hu))⟩
    rcases List.mem_cons.1 hl with rfl|hl
    ·exact i1
    ·exact j1 l hl
   ·simp only[Option.some.injEq,Prod.mk.injEq] at h
    obtain⟨rfl,rfl⟩:=h
    exact⟨fun l hl=>by simp at hl;subst hl;exact i1,i2⟩
theorem yb1{n:Nat}{r:List Tok}{c:zab}{r2:List Tok}(h:ze5 n r=some (c,r2))(ht:∀ x∈r,ydl x):yax c/\∀ x∈r2,x∈r:=by
 unfold ze5 at h
 split at h
 ·cases h
 ·rename_i a r3 hq
  obtain⟨i0,i1,i2⟩:=ya0 hq ht
  split at h
  ·split at h
   ·cases h
   ·rename_i b r4 hb
    split at h
    ·simp only[Option.some.injEq,Prod.mk.injEq] at h
     obtain⟨rfl,rfl⟩:=h
     obtain⟨j1,j2⟩:=ybg n hb (fun u hu=>ht u (i2 u (yac hu)))
     exact⟨⟨i0,i1,j1⟩,fun u hu=>i2 u (yac (j2 u (yac hu)))⟩
    ·cases h
  ·split at h
   ·simp only[Option.some.injEq,Prod.mk.injEq] at h
    obtain⟨rfl,rfl⟩:=h
    exact⟨⟨i0,i1,fun l hl=>by cases hl⟩,fun u hu=>i2 u (yac hu)⟩
   ·cases h
theorem ybk{n:Nat}:∀(m:Nat) {r:List Tok} {cs:List zab},zex n m r=some cs->(∀ x∈r,ydl x)->∀ c∈cs,yax c
 |m,[],cs,h,_=>by cases m <;> (simp[zex] at h;subst h;simp)
 |0,_::_,cs,h,_=>by simp[zex] at h
 |m+1,x::r,cs,h,ht=>by
  unfold zex at h
  split at h
  ·cases h
  ·rename_i c r2 hq
   obtain⟨i1,i2⟩:=yb1 hq ht
   obtain⟨ds,hd,rfl⟩:=Option.map_eq_some_iff.1 h
   intro z hz
   rcases List.mem_cons.1 hz with rfl|hz
   ·exact i1
   ·exact ybk m hd (fun u hu=>ht u (i2 u hu)) z hz
theorem ycg{s:ByteArray}{l:List Tok}(h:splitB s=some l):∀ x∈l,ydl x:=by
 unfold splitB at h
 rw[ybm] at h
 exact ya1 _ _ _ h
end Go.Proofs.YteampbddflhngaaGreat
