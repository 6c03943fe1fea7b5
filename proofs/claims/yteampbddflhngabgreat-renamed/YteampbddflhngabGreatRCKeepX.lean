import Derived.Test.YteampbddflhngabGreatRCPy5

namespace Go.Proofs.YteampbddflhngabGreat
def zdg(l:zbb):zbb:=⟨l.neg,l.pred,l.args.map zg1⟩
def ziy(c:zaa):zaa:=⟨zdg c.head,c.body.map zdg⟩
theorem z94{a:Int}(h:zei a=true∨zi5 a=true∨zi6 a=true)(c d:Int):zay a c=zay a d:=by
 unfold zay
 rcases h with h|h|h <;> simp[h]
theorem ztq{x:ByteArray}(h:zri (bl x)):zei (bAt x 0)=true∨zi5 (bAt x 0)=true∨zi6 (bAt x 0)=true:=by
 rw[zz9]
 rcases h.kind with ⟨h|h,_⟩|⟨h,_⟩
 ·exact Or.inl h
 ·exact Or.inr (Or.inl h)
 ·exact Or.inr (Or.inr h)
theorem z0n{x:ByteArray}(h:zri (bl x)):zk9 x=2↔za1 x=true:=by
 unfold zk9 za1 zay
 rcases ztq h with q|q|q
 ·simp[q,zqz q]
 ·have:zei (bAt x 0)=false:=by
   cases hs:zei (bAt x 0) with
   |false=>rfl
   |true=>rw[zqz hs] at q;cases q
  simp[q,this]
 ·have h1:=yc6 q
  have h2:zei (bAt x 0)=false:=by
   simp only[zi6,Bool.and_eq_true,decide_eq_true_eq] at q
   simp only[zei,Bool.and_eq_false_iff,decide_eq_false_iff_not]
   omega
  simp[q,h1,h2]
theorem zum{x:ByteArray}(h:zri (bl x)):zqr (zzw x)=zzw (zg1 x):=by
 unfold zqr zzw
 by_cases hv:za1 x=true
 ·have hk:=(z0n h).2 hv
  have e:zg1 x=⟨(yd0 (bl x)).toArray⟩:=by unfold zg1;rw[if_pos hv]
  have hk2:zk9 (zg1 x)=zk9 x:=by
   have e0:bAt (zg1 x) 0=bAt x 0:=by rw[zz9,zz9,e,z5x,z7e]
   unfold zk9
   rw[e0]
   exact z94 (ztq h) _ _
  simp only[hk,if_true,hk2]
  rw[e]
 ·rw[zhu hv]
  have hk:¬ zk9 x=2:=fun q=>hv ((z0n h).1 q)
  simp only[if_neg hk]
theorem z1a:∀(xs:List ByteArray),(∀ x∈xs,zri (bl x))->(zlp signs xs).map zqr=zlp signs (xs.map zg1)
 |[],_=>rfl
 |[x],h=>by
  show [zqr (zzw x)]=[zzw (zg1 x)]
  rw[zum (h x (by simp))]
 |x::y::r,h=>by
  show zqr (zzw x)::zqr (6,signs.comma)::(zlp signs (y::r)).map zqr=zzw (zg1 x)::(6,signs.comma)::zlp signs ((y::r).map zg1)
  rw[zum (h x (by simp)),z1a (y::r) (fun z hz=>h z (by simp[List.mem_cons.1 hz]))]
  rfl
theorem zo8{l:zbb}(h:zjy l):(zic signs l).map zqr=zic signs (zdg l):=by
 have h1:zqr (1,l.pred)=(1,l.pred):=rfl
 unfold zic zdg
 by_cases ha:l.args=[]
 ·simp only[ha,List.map_nil,if_true,List.map_cons,h1]
 ·have ha2:¬ l.args.map zg1=[]:=by simpa using ha
  simp only[if_neg ha,if_neg ha2,List.map_cons,List.map_append,List.map_nil,z1a _ h.2,h1]
  rfl
theorem z81{l:zbb}(h:zjy l):(zxz signs l).map zqr=zxz signs (zdg l):=by
 unfold zxz
 have e:(zdg l).neg=l.neg:=rfl
 rw[e]
 split
 ·rw[List.map_cons,zo8 h]
  rfl
 ·exact zo8 h
theorem z1b:∀(b:List zbb),(∀ l∈b,zjy l)->(zi9 signs b).map zqr=zi9 signs (b.map zdg)
 |[],_=>rfl
 |[l],h=>z81 (h l (by simp))
 |l::m::r,h=>by
  have ih:=z1b (m::r) (fun z hz=>h z (by simp[List.mem_cons.1 hz]))
  simp only[zi9,List.map_append,List.map_cons] at ih ⊢
  rw[z81 (h l (by simp)),ih]
  rfl
theorem z4e{c:zaa}(h:zlb c):(clK signs c).map zqr=clK signs (ziy c):=by
 unfold clK ziy
 by_cases hb:c.body=[]
 ·simp only[hb,List.map_nil,if_true,List.nil_append,List.map_append,List.map_cons,zo8 h.2.1]
  rfl
 ·have hb2:¬ c.body.map zdg=[]:=by simpa using hb
  simp only[if_neg hb,if_neg hb2,List.map_append,List.map_cons,List.map_nil,zo8 h.2.1,z1b _ h.2.2]
  rfl
theorem z1d:∀(cs:List zaa),(∀ c∈cs,zlb c)->(zeg signs cs).map zqr=zeg signs (cs.map ziy)
 |[],_=>rfl
 |c::cs,h=>by
  have:zeg signs (c::cs)=clK signs c++zeg signs cs:=by simp[zeg]
  have e2:zeg signs ((c::cs).map ziy)=clK signs (ziy c)++zeg signs (cs.map ziy):=by simp[zeg]
  rw[this,e2,List.map_append,z4e (h c (by simp)),z1d cs (fun d hd=>h d (by simp[hd]))]
theorem ydl{x y:ByteArray}(h:zg1 x=zg1 y):x=y:=by
 by_cases hx:za1 x=true
 ·have hy:za1 y=true:=by rw[← zfs,← h,zfs];exact hx
  rw[← z9s hx,h,z9s hy]
 ·have hy:¬ za1 y=true:=by rw[← zfs,← h,zfs];exact hx
  rw[zhu hx,zhu hy] at h
  exact h
theorem zuk(x:ByteArray):∀ vs:List ByteArray,zo2 (zg1 x) (vs.map zg1)=zo2 x vs
 |[]=>rfl
 |v::vs=>by
  simp only[List.map_cons,zo2,zuk x vs]
  congr 1
  by_cases h:v=x
  ·simp[h]
  ·have:¬ zg1 v=zg1 x:=fun q=>h (ydl q)
   simp[h,this]
theorem ybo(vs:List ByteArray)(x:ByteArray):zre (vs.map zg1) (zg1 x)=(zre vs x).map zg1:=by
 unfold zre
 rw[zfs,zuk]
 split <;> simp
theorem zm3:∀(args vs:List ByteArray),zen (vs.map zg1) (args.map zg1)=(zen vs args).map zg1
 |[],_=>rfl
 |a::args,vs=>by
  unfold zen
  rw[List.map_cons,List.foldl_cons,List.foldl_cons,ybo]
  exact zm3 args (zre vs a)
theorem zxa:∀(ls:List zbb) (vs:List ByteArray),(ls.map zdg).foldl ziu (vs.map zg1)=(ls.foldl ziu vs).map zg1
 |[],_=>rfl
 |l::ls,vs=>by
  rw[List.map_cons,List.foldl_cons,List.foldl_cons]
  have:ziu (vs.map zg1) (zdg l)=(ziu vs l).map zg1:=zm3 l.args vs
  rw[this,zxa ls]
theorem zs7:∀(ls:List zbb) (vs:List ByteArray),(ls.map zdg).foldl zdx (vs.map zg1)=(ls.foldl zdx vs).map zg1
 |[],_=>rfl
 |l::ls,vs=>by
  rw[List.map_cons,List.foldl_cons,List.foldl_cons]
  have:zdx (vs.map zg1) (zdg l)=(zdx vs l).map zg1:=by
   unfold zdx
   show(if l.neg=true then _ else _)=_
   split
   ·rfl
   ·exact zm3 l.args vs
  rw[this,zs7 ls]
theorem ybp(c:zaa):zdz (ziy c)=zdz c:=by
 have h1:(zin (ziy c)).length=(zin c).length:=by
  have e:zin (ziy c)=(zin c).map zg1:=by
   unfold zin ziy
   have q:=zm3 c.head.args []
   rw[List.map_nil] at q
   show(c.body.map zdg).foldl ziu (zen [] (c.head.args.map zg1))=_
   rw[q,zxa]
  rw[e,List.length_map]
 unfold zdz
 rw[h1]
 simp[ziy,zdg,Function.comp_def]
theorem z9a(c:zaa):zaf (ziy c)=(zaf c).map zg1:=zs7 c.body []
theorem zw9(vs args:List ByteArray):zej (vs.map zg1) (args.map zg1)=zej vs args:=by
 unfold zej
 rw[List.all_map]
 congr 1
 funext t
 simp only[Function.comp_def,zfs,zuk]
theorem ybr(c:zaa):zeh (ziy c)=zeh c:=by
 unfold zeh
 rw[z9a]
 have h1:(ziy c).head.args=c.head.args.map zg1:=rfl
 have h2:(ziy c).body=c.body.map zdg:=rfl
 rw[h1,h2,zw9,List.all_map]
 congr 2
 funext l
 show(!l.neg || zej _ (l.args.map zg1))=_
 rw[zw9]
theorem zul(ns:List ByteArray)(σ:ByteArray->Nat)(l:zbb):z1f ns σ (zdg l)=z1f ns (fun v=>σ (zg1 v)) l:=by
 have:∀ i,zpq ns σ (zdg l) i=zpq ns (fun v=>σ (zg1 v)) l i:=by
  intro i
  unfold zpq zdg
  simp only[List.getElem?_map]
  cases l.args[i]? with
  |none=>rfl
  |some y =>
   simp only[Option.map_some,zfs]
   split
   ·rfl
   ·rename_i hv
    rw[zhu hv]
 simp only[z1f,this]
theorem ydk(t:List zam)(ns:List ByteArray)(c:zaa)(D:DB)(x:zar):yd3 t ns (ziy c) D x↔yd3 t ns c D x:=by
 constructor
 ·rintro⟨σ,h1,h2,h3⟩
  refine⟨fun v=>σ (zg1 v),fun l hl hn=>?_,fun l hl hn=>?_,?_⟩
  ·rw[← zul];exact h1 (zdg l) (List.mem_map.2 ⟨l,hl,rfl⟩) hn
  ·rw[← zul];exact h2 (zdg l) (List.mem_map.2 ⟨l,hl,rfl⟩) hn
  ·rw[← zul];exact h3
 ·rintro⟨σ,h1,h2,h3⟩
  have e:∀ l:zbb,z1f ns (fun u=>σ (unB u)) (zdg l)=z1f ns σ l:=fun l=>by
   rw[zul]
   exact ztd fun y _ hv=>by rw[z9s hv]
  refine⟨fun u=>σ (unB u),fun l hl hn=>?_,fun l hl hn=>?_,?_⟩
  ·obtain⟨m,hm,rfl⟩:=List.mem_map.1 hl
   rw[e];exact h1 m hm hn
  ·obtain⟨m,hm,rfl⟩:=List.mem_map.1 hl
   rw[e];exact h2 m hm hn
  ·rw[h3];exact(e c.head).symm
theorem zzc{cs:List zaa}{P:zaa->Prop}:(∃ c∈cs.map ziy,P c)↔∃ c∈cs,P (ziy c):=by
 constructor
 ·rintro⟨c,hc,h⟩
  obtain⟨d,hd,rfl⟩:=List.mem_map.1 hc
  exact⟨d,hd,h⟩
 ·rintro⟨c,hc,h⟩
  exact⟨ziy c,List.mem_map.2 ⟨c,hc,rfl⟩,h⟩
theorem zo9(c:zaa):zax (ziy c)=(zax c).map zdg:=rfl
theorem z88{cs:List zaa}{t0 t:List zam}(h:Parts cs t0 t)(few:prW (cs.map ziy)<=500):Parts (cs.map ziy) t0 t:=by
 refine h.alike few (fun c hc=>?_) (fun c hc=>?_) (fun n k=>?_) (fun f=>?_)
 ·obtain⟨d,hd,rfl⟩:=List.mem_map.1 hc
  rw[ybp];exact h.many d hd
 ·obtain⟨d,hd,rfl⟩:=List.mem_map.1 hc
  rw[ybr];exact h.safe d hd
 ·constructor
  ·rintro⟨l,hl,h1,h2⟩
   obtain⟨c,hc,hlc⟩:=List.mem_flatMap.1 hl
   obtain⟨d,hd,rfl⟩:=List.mem_map.1 hc
   rw[zo9] at hlc
   obtain⟨m,hm,rfl⟩:=List.mem_map.1 hlc
   exact⟨m,List.mem_flatMap.2 ⟨d,hd,hm⟩,h1,by rw[← h2];simp[zdg]⟩
  ·rintro⟨l,hl,h1,h2⟩
   obtain⟨c,hc,hlc⟩:=List.mem_flatMap.1 hl
   exact⟨zdg l,List.mem_flatMap.2 ⟨ziy c,List.mem_map.2 ⟨c,hc,rfl⟩,by rw[zo9];exact List.mem_map.2 ⟨l,hlc,rfl⟩⟩,h1,by rw[← h2];simp[zdg]⟩
 ·unfold Sol
  constructor
  ·intro q c hc l hl
   exact q (ziy c) (List.mem_map.2 ⟨c,hc,rfl⟩) (zdg l) (List.mem_map.2 ⟨l,hl,rfl⟩)
  ·intro q c hc l hl
   obtain⟨d,hd,rfl⟩:=List.mem_map.1 hc
   obtain⟨m,hm,rfl⟩:=List.mem_map.1 hl
   exact q d hd m hm
theorem zzb(cs:List zaa):zah (cs.map ziy)=zah cs:=by
 refine zjk (ze1 _).1 (ze1 cs).1 fun y=>?_
 rw[(ze1 _).2,(ze1 cs).2,zzc]
 constructor
 ·rintro⟨c,hc,l,hl,hy,hv⟩
  rw[zo9] at hl
  obtain⟨m,hm,rfl⟩:=List.mem_map.1 hl
  obtain⟨x,hx,rfl⟩:=List.mem_map.1 hy
  rw[zfs] at hv
  exact⟨c,hc,m,hm,by rw[zhu (by rw[hv];simp)];exact hx,by rw[zfs];exact hv⟩
 ·rintro⟨c,hc,l,hl,hy,hv⟩
  exact⟨c,hc,zdg l,by rw[zo9];exact List.mem_map.2 ⟨l,hl,rfl⟩,List.mem_map.2 ⟨y,hy,zhu (by rw[hv];simp)⟩,hv⟩
theorem z1c{cs:List zaa}{t0 t:List zam}(h:Parts cs t0 t){c:zaa}(hc:c∈cs)(hb:¬ 0 < c.body.length):ziy c=c:=by
 obtain⟨hd,b⟩:=c
 have hb0:b=[]:=by cases b with|nil=>rfl|cons x r=>simp at hb
 subst hb0
 have hcov:=h.covered hc hd (by simp[zax])
 have hv:∀ y∈hd.args,zg1 y=y:=fun y hy=>zhu fun q=>by
  have:=hcov y hy q
  simp[zaf] at this
 unfold ziy zdg
 have e:hd.args.map zg1=hd.args:=by
  conv=>rhs;rw[← List.map_id hd.args]
  exact List.map_congr_left fun y hy=>hv y hy
 simp only[e,List.map_nil]
theorem ybq{s s2:ByteArray}{cs:List zaa}{t0 t:List zam}(h:zg8 s=.ok (cs,t))(hp:Parts cs t0 t)(hs2:bl s2=zfo false (bl s)):zg8 s2=.error 1∨zg8 s2=.error 2∨∃ cs2 t2,zg8 s2=.ok (cs2,t2)/\ycc t (zah cs) (zeq (zf2 t (zah cs) none cs) 4096 4096) t2 (zah cs2) (zeq (zf2 t2 (zah cs2) none cs2) 4096 4096):=by
 by_cases h5:500 < s2.size
 ·left
  unfold zg8
  rw[if_pos h5]
 ·right
  cases hq:zg2 (bl s2) with
  |none =>
   left
   unfold zg8
   rw[if_neg h5,zur,hq]
  |some ts2 =>
   right
   obtain⟨a1,a2,a3⟩:=zr7 h
   have e:=zkk _ (bl s) _ ts2 (Nat.le_refl _) a1 (z06 cs) (by rw[← hs2];exact hq)
   rw[z1d cs a2] at e
   subst e
   have hw2:∀ c∈cs.map ziy,zlb c:=by
    have hp2:zda (zeg signs (cs.map ziy)).length (zeg signs (cs.map ziy)).length (zeg signs (cs.map ziy))=some (cs.map ziy):=by
     refine zm2 signs _ _ _ (fun c hc=>⟨?_,(zhs signs _).2 c hc⟩) (zhs signs _).1
     obtain⟨d,hd,rfl⟩:=List.mem_map.1 hc
     have hw:=a2 d hd
     have hlit:∀ l:zbb,zjy l->zx7 (zdg l):=fun l hl x hx=>by
      obtain⟨y,hy,rfl⟩:=List.mem_map.1 hx
      have q:=congrArg Prod.fst (zum (hl.2 y hy))
      have q2:zk9 y=zk9 (zg1 y):=q
      rw[← q2]
      exact z1t (hl.2 y hy)
     exact⟨hw.1,hlit _ hw.2.1,fun l hl=>by
      obtain⟨m,hm,rfl⟩:=List.mem_map.1 hl
      exact hlit m (hw.2.2 m hm)⟩
    refine zny _ hp2 ?_
    have:=zk2 (bl s2).length (bl s2) _ hq
    exact this
   have few:=ydw (by omega) hq hw2
   have hp2:=z88 hp few
   refine⟨cs.map ziy,t,yc4 (by omega) hq hw2 hp2.many hp2.coll hp2.safe hp2.strat,?_⟩
   rw[zzb,← zu7 hp hp2 (zah cs) (fun s D p x=>?_) (fun s=>?_) (fun f=>?_)]
   ·cases zeq (zf2 t (zah cs) none cs) 4096 4096 with
    |none=>trivial
    |some x=>exact⟨rfl,fun f=>Iff.rfl⟩
   ·unfold yad
    rw[zzc]
    have e1:∀ c:zaa,(ziy c).body.length=c.body.length:=fun c=>by simp[ziy]
    have e2:∀ c:zaa,(ziy c).head.pred=c.head.pred:=fun c=>rfl
    simp only[e1,e2,ydk]
   ·rw[zzc]
    have e1:∀ c:zaa,(ziy c).body.length=c.body.length:=fun c=>by simp[ziy]
    have e2:∀ c:zaa,(ziy c).head.pred=c.head.pred:=fun c=>rfl
    simp only[e1,e2]
   ·have e1:∀ c:zaa,(ziy c).body.length=c.body.length:=fun c=>by simp[ziy]
    unfold zc1
    simp only[List.mem_map,List.mem_filter]
    constructor
    ·rintro⟨c,⟨hc,hb⟩,rfl⟩
     have hb':¬ 0 < c.body.length:=by simpa using hb
     have:=z1c hp hc hb'
     exact⟨c,⟨⟨c,hc,this⟩,hb⟩,rfl⟩
    ·rintro⟨c,⟨⟨d,hd,rfl⟩,hb⟩,rfl⟩
     have hb':¬ 0 < d.body.length:=by rw[e1] at hb;simpa using hb
     have:=z1c hp hd hb'
     rw[this] at hb ⊢
     exact⟨d,⟨hd,hb⟩,rfl⟩
set_option maxRecDepth 100000
set_option maxHeartbeats 4000000
open Go.RowKit
theorem z5w(s:ByteArray):(bl s).length=s.size:=by unfold bl;rw[Array.length_toList];rfl
theorem ycg{s:ByteArray}{k:Nat}(h:k < s.size):bl (s.extract k (k+1))=[s[k]]:=by
 have:=zoa s k 1
 rw[this,z5x,List.take_one,List.head?_drop]
 have e:s.data.toList[k]?=some s[k]:=by
  rw[List.getElem?_eq_getElem (by rw[Array.length_toList];exact h)]
  simp[ByteArray.getElem_eq_getElem_data]
 rw[e]
 rfl
theorem ybs{s:ByteArray}{k:Nat}(hk:k < s.size)(x:ByteArray)(inw:Bool)(h:zfo false (bl s)=bl x++zfo inw ((bl s).drop k)){n:Nat}(hn:s[k].toNat=n){big word:Bool}(hb:zi5 (n:Int)=big)(hw:bLD (n:Int)=word):zfo false (bl s)=bl (if (big && !inw)=true then x++s.extract k (k+1)++⟨#[113]⟩ else x++s.extract k (k+1))++zfo word ((bl s).drop (k+1)):=by
 have e:(bl s).drop k=s[k]::(bl s).drop (k+1):=by
  rw[List.drop_eq_getElem_cons (by rw[z5w];exact hk)]
  congr 1
 have hbt:byt s[k]=(n:Int):=by unfold byt;rw[hn]
 rw[e,zfo,hbt,hb,hw] at h
 rw[h]
 split
 ·rw[z5v,z5v,ycg hk]
  have q:bl (⟨#[113]⟩:ByteArray)=[113]:=rfl
  rw[q]
  simp
 ·rw[z5v,ycg hk]
  simp
theorem z9b(n:Nat):((97:Int)<=n/\(n:Int)<=122/\(65:Int)<=n/\¬ (n:Int)<=90/\Hid (zi5 (n:Int)=false)/\Hid (bLD (n:Int)=true))∨((97:Int)<=n/\¬ (n:Int)<=122/\(65:Int)<=n/\¬ (n:Int)<=90/\(48:Int)<=n/\¬ (n:Int)<=57/\Hid (zi5 (n:Int)=false)/\Hid (bLD (n:Int)=false))∨(¬ (97:Int)<=n/\(65:Int)<=n/\(n:Int)<=90/\Hid (zi5 (n:Int)=true)/\Hid (bLD (n:Int)=true))∨(¬ (97:Int)<=n/\(65:Int)<=n/\¬ (n:Int)<=90/\(48:Int)<=n/\¬ (n:Int)<=57/\Hid (zi5 (n:Int)=false)/\Hid (bLD (n:Int)=false))∨(¬ (97:Int)<=n/\¬ (65:Int)<=n/\(48:Int)<=n/\(n:Int)<=57/\Hid (zi5 (n:Int)=false)/\Hid (bLD (n:Int)=true))∨(¬ (97:Int)<=n/\¬ (65:Int)<=n/\(48:Int)<=n/\¬ (n:Int)<=57/\Hid (zi5 (n:Int)=false)/\Hid (bLD (n:Int)=false))∨(¬ (97:Int)<=n/\¬ (65:Int)<=n/\¬ (48:Int)<=n/\Hid (zi5 (n:Int)=false)/\Hid (bLD (n:Int)=false)):=by
 have hc:∀ b:Bool,(b=true↔(65:Int)<=n/\(n:Int)<=90)->Hid (zi5 (n:Int)=b):=by
  intro b hb
  unfold zi5
  cases b with
  |true=>simpa [Hid] using hb.1 rfl
  |false =>
   have:¬ ((65:Int)<=n/\(n:Int)<=90):=fun q=>by have:=hb.2 q;cases this
   simp only[Hid,Bool.and_eq_false_iff,decide_eq_false_iff_not]
   omega
 have hl:∀ b:Bool,(b=true↔(97:Int)<=n/\(n:Int)<=122∨(65:Int)<=n/\(n:Int)<=90∨(48:Int)<=n/\(n:Int)<=57)->Hid (bLD (n:Int)=b):=by
  intro b hb
  unfold bLD zei zi5 zi6
  cases b with
  |true =>
   have:=hb.1 rfl
   simp only[Hid,Bool.or_eq_true,Bool.and_eq_true,decide_eq_true_eq]
   omega
  |false =>
   have:¬ ((97:Int)<=n/\(n:Int)<=122∨(65:Int)<=n/\(n:Int)<=90∨(48:Int)<=n/\(n:Int)<=57):=fun q=>by have:=hb.2 q;cases this
   simp only[Hid,Bool.or_eq_false_iff,Bool.and_eq_false_iff,decide_eq_false_iff_not]
   omega
 by_cases h1:(97:Int)<=n
 ·by_cases h2:(n:Int)<=122
  ·exact Or.inl ⟨h1,h2,by omega,by omega,hc _ (by simp;omega),hl _ (by simp;omega)⟩
  ·exact Or.inr (Or.inl ⟨h1,h2,by omega,by omega,by omega,by omega,hc _ (by simp;omega),hl _ (by simp;omega)⟩)
 ·by_cases h3:(65:Int)<=n
  ·by_cases h4:(n:Int)<=90
   ·exact Or.inr (Or.inr (Or.inl ⟨h1,h3,h4,hc _ (by simp;omega),hl _ (by simp;omega)⟩))
   ·exact Or.inr (Or.inr (Or.inr (Or.inl ⟨h1,h3,h4,by omega,by omega,hc _ (by simp;omega),hl _ (by simp;omega)⟩)))
  ·by_cases h5:(48:Int)<=n
   ·by_cases h6:(n:Int)<=57
    ·exact Or.inr (Or.inr (Or.inr (Or.inr (Or.inl ⟨h1,h3,h5,h6,hc _ (by simp;omega),hl _ (by simp;omega)⟩))))
    ·exact Or.inr (Or.inr (Or.inr (Or.inr (Or.inr (Or.inl ⟨h1,h3,h5,h6,hc _ (by simp;omega),hl _ (by simp;omega)⟩)))))
   ·exact Or.inr (Or.inr (Or.inr (Or.inr (Or.inr (Or.inr ⟨h1,h3,h5,hc _ (by simp;omega),hl _ (by simp;omega)⟩)))))
theorem z8f{lp:Nat}(w:World)(db pb:Nat)(s:ByteArray){cs:List zaa}{t0 t:List zam}(hd:Box w db #[.pointer (some ⟨pb,0,none⟩),.string s] 37)(hP:zg7 lp w pb cs t)(h:Parts cs t0 t)(hlp:lp<=w.heap.size)(hc:zg8 s=.ok (cs,t)) :
  Calls Tryz.prog 11 #[.pointer (some ⟨db,0,none⟩)] w fun e w'=>e=.returned (.bool true)/\Below w.heap.size w w':=by
 have hs5:=(zr7 hc).2.2
 have HCO:Hid (∀ x,x.size<=9223372036854775807->bl x=zfo false (bl s)->(∃ n:Int,(n=1∨n=2)/\Hid (Calls Tryz.prog 19 #[.string x] w fun e w'=>e=.returned (.tuple #[.pointer none,.int .i64 n])/\Hid (Below w.heap.size w w')))∨(Hid (Calls Tryz.prog 19 #[.string x] w fun e w'=>∃ qb,e=.returned (.tuple #[.pointer (some ⟨qb,0,none⟩),.int .i64 0])/\Hid (Below w.heap.size w w'))/\Hid (∀ W,Below w.heap.size w W->Calls Tryz.prog 20 #[.pointer (some ⟨db,0,none⟩),.string x] W fun e w'=>e=.returned (.bool true)/\Hid (Below W.heap.size W w')))):=fun x hsz hx=>by
  have hcm:=zhk x w hsz
  rcases ybq hc h hx with q|q|⟨cs2,t2,q,hal⟩
  ·left
   refine⟨1,Or.inl rfl,hcm.mono ?_⟩
   rintro e w' ⟨hb,q2⟩
   rw[q] at q2
   exact⟨q2,hb⟩
  ·left
   refine⟨2,Or.inr rfl,hcm.mono ?_⟩
   rintro e w' ⟨hb,q2⟩
   rw[q] at q2
   exact⟨q2,hb⟩
  ·right
   refine⟨hcm.mono ?_,fun W hb=>z8o W db pb s x (hd.below hb) (hP.below hb) h (Nat.le_trans hlp hb.size) hsz fun _=>⟨cs2,t2,q,hal⟩⟩
   rintro e w' ⟨hb,q2⟩
   rw[q] at q2
   obtain⟨qb,v,pv,h3,h4,h5,h6,h7⟩:=q2
   exact⟨qb,h3,hb⟩
 have c1:w.cell? ⟨db,1,none⟩=some (.string s):=by rw[hd.rules.1];rfl
 have hl0:=hd.lt
 clear hd hP h hc hlp
 go_enter Tryz.func11,Tryz.ntmps11
 go_wp2
 go_loopw [3,4,5] (fun v3 v4 v5 wr=>∃(k:Nat) (x:ByteArray) (b:Bool),k<=s.size/\v5=.int .i64 k/\v3=.string x/\v4=.bool b/\x.size<=2 * k/\Hid (zfo false (bl s)=bl x++zfo b ((bl s).drop k))/\wr=w) (fun _ _ i _=>s.size - (intOf i).toNat)
 case atStart=>exact⟨0,_,_,Nat.zero_le _,rfl,rfl,rfl,Nat.le_refl _,(by simp[Hid];rfl),rfl⟩
 case round =>
  obtain⟨k,x,b,hk,rfl,rfl,rfl,hx,H,rfl⟩:=hrel
  by_cases hlt:k < s.size
  ·have hki:(k:Int) < (s.size:Int):=by omega
   have hk1:k+1<=s.size:=by omega
   have hex:(s.extract k (k+1)).size=1:=by rw[ByteArray.size_extract];omega
   have hrg:=z9b s[k].toNat
   have HS:=fun(big word:Bool) (hb:zi5 (s[k].toNat:Int)=big) (hw:bLD (s[k].toNat:Int)=word)=>ybs hlt x b H.out rfl hb hw
   have HS2:Hid (∀(big word:Bool),zi5 (s[k].toNat:Int)=big->bLD (s[k].toNat:Int)=word->zfo false (bl s)=bl (if (big && !b)=true then x++s.extract k (k+1)++⟨#[113]⟩ else x++s.extract k (k+1))++zfo word ((bl s).drop (k+1))):=HS
   clear HS H
   rcases hrg with ⟨h1,h2,h3,h4,HB,HW⟩|⟨h1,h2,h3,h4,h5,h6,HB,HW⟩|⟨h1,h2,h3,HB,HW⟩|⟨h1,h2,h3,h4,h5,HB,HW⟩|⟨h1,h2,h3,h4,HB,HW⟩|⟨h1,h2,h3,h4,HB,HW⟩|⟨h1,h2,h3,HB,HW⟩
   ·have H3:=HS2.out _ _ HB.out HW.out
    simp only[Bool.false_and,Bool.false_eq_true,if_false] at H3
    have H4:Hid (zfo false (bl s)=bl (x++s.extract k (k+1))++zfo true ((bl s).drop (k+1))):=H3
    clear H3 HS2 HB HW
    go_wp2
    go_roundw
    case rel=>exact⟨k+1,_,_,by omega,by go_num,rfl,rfl,by rw[ByteArray.size_append];omega,H4,trivial⟩
    case measure=>simp[intOf];omega
   ·have H3:=HS2.out _ _ HB.out HW.out
    simp only[Bool.false_and,Bool.false_eq_true,if_false] at H3
    have H4:Hid (zfo false (bl s)=bl (x++s.extract k (k+1))++zfo false ((bl s).drop (k+1))):=H3
    clear H3 HS2 HB HW
    go_wp2
    go_roundw
    case rel=>exact⟨k+1,_,_,by omega,by go_num,rfl,rfl,by rw[ByteArray.size_append];omega,H4,trivial⟩
    case measure=>simp[intOf];omega
   ·have H3:=HS2.out _ _ HB.out HW.out
    cases b with
    |true =>
     simp only[Bool.not_true,Bool.and_false,Bool.false_eq_true,if_false] at H3
     have H4:Hid (zfo false (bl s)=bl (x++s.extract k (k+1))++zfo true ((bl s).drop (k+1))):=H3
     clear H3 HS2 HB HW
     go_wp2
     go_roundw
     case rel=>exact⟨k+1,_,_,by omega,by go_num,rfl,rfl,by rw[ByteArray.size_append];omega,H4,trivial⟩
     case measure=>simp[intOf];omega
    |false =>
     simp only[Bool.not_false,Bool.and_self,if_true] at H3
     have H4:Hid (zfo false (bl s)=bl (x++s.extract k (k+1)++⟨#[113]⟩)++zfo true ((bl s).drop (k+1))):=H3
     clear H3 HS2 HB HW
     go_wp2
     go_roundw
     case rel=>exact⟨k+1,_,_,by omega,by go_num,rfl,rfl,by rw[ByteArray.size_append,ByteArray.size_append,show(⟨#[113]⟩:ByteArray).size=1 from rfl];omega,H4,trivial⟩
     case measure=>simp[intOf];omega
   ·have H3:=HS2.out _ _ HB.out HW.out
    simp only[Bool.false_and,Bool.false_eq_true,if_false] at H3
    have H4:Hid (zfo false (bl s)=bl (x++s.extract k (k+1))++zfo false ((bl s).drop (k+1))):=H3
    clear H3 HS2 HB HW
    go_wp2
    go_roundw
    case rel=>exact⟨k+1,_,_,by omega,by go_num,rfl,rfl,by rw[ByteArray.size_append];omega,H4,trivial⟩
    case measure=>simp[intOf];omega
   ·have H3:=HS2.out _ _ HB.out HW.out
    simp only[Bool.false_and,Bool.false_eq_true,if_false] at H3
    have H4:Hid (zfo false (bl s)=bl (x++s.extract k (k+1))++zfo true ((bl s).drop (k+1))):=H3
    clear H3 HS2 HB HW
    go_wp2
    go_roundw
    case rel=>exact⟨k+1,_,_,by omega,by go_num,rfl,rfl,by rw[ByteArray.size_append];omega,H4,trivial⟩
    case measure=>simp[intOf];omega
   ·have H3:=HS2.out _ _ HB.out HW.out
    simp only[Bool.false_and,Bool.false_eq_true,if_false] at H3
    have H4:Hid (zfo false (bl s)=bl (x++s.extract k (k+1))++zfo false ((bl s).drop (k+1))):=H3
    clear H3 HS2 HB HW
    go_wp2
    go_roundw
    case rel=>exact⟨k+1,_,_,by omega,by go_num,rfl,rfl,by rw[ByteArray.size_append];omega,H4,trivial⟩
    case measure=>simp[intOf];omega
   ·have H3:=HS2.out _ _ HB.out HW.out
    simp only[Bool.false_and,Bool.false_eq_true,if_false] at H3
    have H4:Hid (zfo false (bl s)=bl (x++s.extract k (k+1))++zfo false ((bl s).drop (k+1))):=H3
    clear H3 HS2 HB HW
    go_wp2
    go_roundw
    case rel=>exact⟨k+1,_,_,by omega,by go_num,rfl,rfl,by rw[ByteArray.size_append];omega,H4,trivial⟩
    case measure=>simp[intOf];omega
  ·have hki:¬ (k:Int) < (s.size:Int):=by omega
   have hxe:bl x=zfo false (bl s):=by
    rw[H.out,List.drop_eq_nil_of_le (by rw[z5w];omega)]
    cases b <;> simp[zfo]
   have hsz:x.size<=9223372036854775807:=by omega
   rcases HCO.out x hsz hxe with ⟨n,hn,HQ⟩|⟨HQ,HOT⟩
   ·clear HCO H hxe
    rcases hn with rfl|rfl
    ·go_wp2_with (first|(go_at_call 19;refine HQ.out.mono ?_;rintro e w1 ⟨rfl,hb1⟩))
     go_ret
     exact⟨rfl,hb1.out⟩
    ·go_wp2_with (first|(go_at_call 19;refine HQ.out.mono ?_;rintro e w1 ⟨rfl,hb1⟩))
     go_ret
     exact⟨rfl,hb1.out⟩
   ·clear HCO H hxe
    go_wp2_with (first|(go_at_call 19;refine HQ.out.mono ?_;rintro e w1 ⟨qb,rfl,hb1⟩)|(go_at_call 20;refine(HOT.out _ hb1.out).mono ?_;rintro e w2 ⟨rfl,hb2⟩))
    go_ret
    exact⟨rfl,zae hb1.out hb2.out (Nat.le_refl _)⟩
theorem zx4(w:World)(s:ByteArray)(hs:s.size<=9223372036854775807) :
  Calls Tryz.prog 3 #[.string s] w fun e w'=>e=.returned (.bool true)/\Below w.heap.size w w':=by
 have HRE:Hid (Calls Tryz.prog 10 #[.string s] w fun e w'=>zot s w e w'):=z7n w s hs
 unfold zot at HRE
 cases hc:zg8 s with
 |error n =>
  rw[hc] at HRE
  have HR2:Hid (Calls Tryz.prog 10 #[.string s] w fun e w'=>e=.returned (.tuple #[.pointer none,.bool true])/\Below w.heap.size w w'):=HRE
  clear HRE hc
  go_enter Tryz.func3,Tryz.ntmps3
  go_wp2_with (first|(go_at_call 10;refine HR2.out.mono ?_;rintro e w1 ⟨rfl,hb1⟩))
  go_ret
  exact⟨rfl,hb1⟩
 |ok x =>
  obtain⟨cs,t⟩:=x
  obtain⟨t0,hp⟩:=zr6 hc
  rw[hc] at HRE
  have HR2:Hid (Calls Tryz.prog 10 #[.string s] w fun e w'=>∃ db,e=.returned (.tuple #[.pointer (some ⟨db,0,none⟩),.bool true])/\Hid (∃ pb,Box w' db #[.pointer (some ⟨pb,0,none⟩),.string s] 37/\zg7 w.heap.size w' pb cs t)/\Below w.heap.size w w'):=by
   refine HRE.out.mono ?_
   rintro e w' ⟨db,pb,q1,q2,q3,q4,q5⟩
   exact⟨db,q2,⟨pb,q3,q4⟩,q5⟩
  have HLI:Hid (∀ W db,w.heap.size<=W.heap.size->(∃ pb,Box W db #[.pointer (some ⟨pb,0,none⟩),.string s] 37/\zg7 w.heap.size W pb cs t)->Calls Tryz.prog 11 #[.pointer (some ⟨db,0,none⟩)] W fun e w'=>e=.returned (.bool true)/\Below W.heap.size W w'):=fun W db hl ⟨pb,q1,q2⟩=>z8f W db pb s q1 q2 hp hl hc
  clear HRE hc hp
  go_enter Tryz.func3,Tryz.ntmps3
  go_wp2_with (first|(go_at_call 10;refine HR2.out.mono ?_;rintro e w1 ⟨db,rfl,HX1,hb1⟩)|(go_at_call 11;refine(HLI.out _ _ hb1.size HX1.out).mono ?_;rintro e w2 ⟨rfl,hb2⟩))
  go_ret
  exact⟨rfl,zae hb1 hb2 (Nat.le_refl _)⟩
end Go.Proofs.YteampbddflhngabGreat
