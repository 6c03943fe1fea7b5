import Derived.Test.YteampbddflhngaaGreatW08
import Derived.Deep.RegionHeld3
import Derived.Deep.CutRange

namespace Go.Proofs.YteampbddflhngaaGreat
set_option maxRecDepth 100000
set_option maxHeartbeats 2000000
open Go.RowKit
variable {lo:Nat}
variable {w:World}{tb:Nat}{T:zad}{nv:Value}{ns:List (Nat × Nat)}
def ze1(wd:Nat)(ns:List (Nat × Nat)):List Value:=ns.flatMap fun x=>[sl x.1 wd,sl x.2 wd]
theorem zi0(wd:Nat):∀(ns:List (Nat × Nat)) (k:Nat) (hk:k < ns.length),(ze1 wd ns)[k * 2]?=some (sl ns[k].1 wd)/\(ze1 wd ns)[k * 2+1]?=some (sl ns[k].2 wd)
 |[],k,hk=>by simp at hk
 |p::r,0,_=>by simp[ze1]
 |p::r,k+1,hk=>by
  have:=zi0 wd r k (by simpa using hk)
  simp only[ze1,ua5] at this ⊢
  rw[show(k+1) * 2=k * 2+1+1 from by omega,show k * 2+1+1+1=k * 2+1+1+1 from rfl]
  simpa using this
def intsOf(ns:List (Nat × Nat)):List Nat:=ns.flatMap fun x=>[x.1,x.2]
structure zdk (lo:Nat) (w:World) (tb:Nat) (T:zad) (nv:Value) (ns:List (Nat × Nat)):Prop where
 low:lo<=tb
 box:Box w tb #[.int .i64 (T.qg:Nat),.int .i64 (T.qp:Nat),nv,.int .i64 (T.count:Nat)] 229
 ql:w.ownsRow lo 273 2 nv T.ql.length (ze1 T.qg ns)
 len:ns.length=T.ql.length
 leap:∀ i (h:i < T.ql.length) (h2:i < ns.length),w.ownsRow lo 3 1 (sl ns[i].1 T.qg) T.qg (T.ql[i].leap.map ivN)
 down:∀ i (h:i < T.ql.length) (h2:i < ns.length),w.ownsRow lo 3 1 (sl ns[i].2 T.qg) T.qg (T.ql[i].down.map ivN)
 apart:(intsOf ns).Nodup
 wide:T.qg<=1000
 many:T.ql.length<=100000000
 deep:T.qp<=3
 few:T.count<=1000000000
def fpT(tb:Nat)(nv:Value)(ns:List (Nat × Nat)):List Nat:=tb::(nv.ownBlock.toList++intsOf ns)
def zat(lo:Nat)(w:World)(tb:Nat)(T:zad)(fp:List Nat):Prop:=∃ nv ns,zdk lo w tb T nv ns/\fp=fpT tb nv ns
theorem zdk.leapLen(h:zdk lo w tb T nv ns)(i:Nat)(hi:i < T.ql.length):T.ql[i].leap.length=T.qg:=by
 have:=(h.leap i hi (by rw[h.len];exact hi)).1;simpa using this
theorem zdk.downLen(h:zdk lo w tb T nv ns)(i:Nat)(hi:i < T.ql.length):T.ql[i].down.length=T.qg:=by
 have:=(h.down i hi (by rw[h.len];exact hi)).1;simpa using this
theorem zrx{b:Nat}(h:b∈intsOf ns):∃ i,∃ h:i < ns.length,b=ns[i].1∨b=ns[i].2:=by
 simp only[intsOf,ubo,uag,ucs,or_false] at h
 obtain⟨x,hx,hb⟩:=h
 obtain⟨i,hi,rfl⟩:=uau hx
 exact⟨i,hi,hb⟩
theorem zna{i:Nat}(h:i < ns.length):ns[i].1∈intsOf ns/\ns[i].2∈intsOf ns:=by
 simp only[intsOf,ubo,uag,ucs,or_false]
 exact⟨⟨_,uad h,Or.inl rfl⟩,⟨_,uad h,Or.inr rfl⟩⟩
theorem zdk.lt{w:World}{tb:Nat}{T:zad}{nv:Value}{ns:List (Nat × Nat)}(h:zdk lo w tb T nv ns):∀ b∈fpT tb nv ns,lo<=b/\b < w.heap.size:=by
 intro b hb
 simp only[fpT,uag,uao] at hb
 rcases hb with rfl|hb|hb
 ·exact⟨h.low,h.box.lt⟩
 ·exact⟨zeg h.ql (zcy hb),zdq h.ql (zcy hb)⟩
 ·obtain⟨i,hi,rfl|rfl⟩:=zrx hb
  ·exact⟨zeg (h.leap i (by rw[← h.len];exact hi) hi) rfl,zdq (h.leap i (by rw[← h.len];exact hi) hi) rfl⟩
  ·exact⟨zeg (h.down i (by rw[← h.len];exact hi) hi) rfl,zdq (h.down i (by rw[← h.len];exact hi) hi) rfl⟩
theorem zat.lt{w:World}{tb:Nat}{T:zad}{fp:List Nat}(h:zat lo w tb T fp):∀ b∈fp,lo<=b/\b < w.heap.size:=by
 obtain⟨nv,ns,h1,rfl⟩:=h;exact h1.lt
theorem zat.save{w w':World}{tb:Nat}{T:zad}{fp N:List Nat}(h:zat lo w tb T fp)(hs:zas N w w')(hN:∀ b∈fp,b∉N):zat lo w' tb T fp:=by
 obtain⟨nv,ns,h1,rfl⟩:=h
 have hm:∀ b∈fpT tb nv ns,b∉N:=hN
 refine⟨nv,ns,⟨h1.low,h1.box.save hs (hm tb (by simp[fpT])),zbl h1.ql hs fun b hb=>hm b ?_,h1.len,fun i hi hi2=>zbl (h1.leap i hi hi2) hs fun b hb=>hm b ?_,fun i hi hi2=>zbl (h1.down i hi hi2) hs fun b hb=>hm b ?_,h1.apart,h1.wide,h1.many,h1.deep,h1.few⟩,rfl⟩
 ·simp[fpT,hb]
 ·simp only[sl,Value.ownBlock,uab] at hb;subst hb;simp only[fpT,uag,uao];exact Or.inr (Or.inr (zna hi2).1)
 ·simp only[sl,Value.ownBlock,uab] at hb;subst hb;simp only[fpT,uag,uao];exact Or.inr (Or.inr (zna hi2).2)
theorem zat.below{w':World}{fp:List Nat}(h:zat lo w tb T fp)(hb:Below w.heap.size w w'):zat lo w' tb T fp:=h.save (zas.of (M:=[]) hb) (by simp)
def zpc(o:Option Nat):Value:=.tuple #[.int .i64 ((o.getD 0:Nat):Int),.bool o.isSome]
theorem zdk.leapAt(h:zdk lo w tb T nv ns)(a f:Nat)(ha:a < T.ql.length)(hf:f < T.qg) :
  ∃ gn cap gl,nv=.slice (some ⟨gn,0,none⟩) T.ql.length cap/\gn < w.heap.size/\gl < w.heap.size/\(∃ h2:a < ns.length,gl=ns[a].1)/\w.cell? ⟨gn,a * 2,none⟩=some (.slice (some ⟨gl,0,none⟩) T.qg T.qg)/\w.cell? ⟨gl,f,none⟩=some (.int .i64 ((T.ql[a].leap.getD f 0:Nat):Int)):=by
 have hi2:a < ns.length:=by rw[h.len];exact ha
 obtain⟨gn,cap',hv,_,hgn,hcn⟩:=zal h.ql (by omega)
 obtain⟨gl,cap'',hv2,_,hgl,hcl⟩:=zal (h.leap a ha hi2) (by omega)
 simp only[sl,Value.slice.injEq,uab,Addr.mk.injEq] at hv2
 obtain⟨⟨rfl,_⟩,_,_⟩:=hv2
 have hll:=h.leapLen a ha
 refine⟨gn,cap',_,hv,hgn,hgl,⟨hi2,rfl⟩,hcn _ _ (zi0 T.qg ns a hi2).1,hcl f _ ?_⟩
 rw[ub5,uac (by omega),uaf,uac (by omega)]
 rfl
theorem zdk.downAt(h:zdk lo w tb T nv ns)(a f:Nat)(ha:a < T.ql.length)(hf:f < T.qg) :
  ∃ gn cap gl,nv=.slice (some ⟨gn,0,none⟩) T.ql.length cap/\gn < w.heap.size/\gl < w.heap.size/\(∃ h2:a < ns.length,gl=ns[a].2)/\w.cell? ⟨gn,a * 2+1,none⟩=some (.slice (some ⟨gl,0,none⟩) T.qg T.qg)/\w.cell? ⟨gl,f,none⟩=some (.int .i64 ((T.ql[a].down.getD f 0:Nat):Int)):=by
 have hi2:a < ns.length:=by rw[h.len];exact ha
 obtain⟨gn,cap',hv,_,hgn,hcn⟩:=zal h.ql (by omega)
 obtain⟨gl,cap'',hv2,_,hgl,hcl⟩:=zal (h.down a ha hi2) (by omega)
 simp only[sl,Value.slice.injEq,uab,Addr.mk.injEq] at hv2
 obtain⟨⟨rfl,_⟩,_,_⟩:=hv2
 have hll:=h.downLen a ha
 refine⟨gn,cap',_,hv,hgn,hgl,⟨hi2,rfl⟩,hcn _ _ (zi0 T.qg ns a hi2).2,hcl f _ ?_⟩
 rw[ub5,uac (by omega),uaf,uac (by omega)]
 rfl
theorem zlc(w:World)(tb:Nat)(T:zad)(fp:List Nat)(a f:Nat)(h:zat lo w tb T fp) :
  Calls Tryz.prog 167 #[.pointer (some ⟨tb,0,none⟩),.int .i64 a,.int .i64 f] w fun e w'=>e=.returned (zpc (zcn T a f))/\w'=w:=by
 obtain⟨nv,ns,h1,rfl⟩:=h
 obtain⟨hc,hfz⟩:=h1.box.rules
 have hlt:=h1.box.lt
 have hwd:=h1.wide
 have hmn:=h1.many
 by_cases h2:a < T.ql.length
 ·by_cases h3:f < T.qg
  ·obtain⟨gn,cap,gl,rfl,hgn,hgl,_,hn1,hv1⟩:=h1.leapAt a f h2 h3
   have hE:zcn T a f=if T.ql[a].leap.getD f 0 ≥ T.qg then none else some (T.ql[a].leap.getD f 0):=by
    unfold zcn
    rw[if_pos ⟨h2,h3⟩]
    simp[List.getD_eq_getElem?_getD,h2]
   generalize T.ql[a].leap.getD f 0=v at *
   clear h1
   by_cases h4:v ≥ T.qg
   ·rw[if_pos h4] at hE
    have HE:Hid (zcn T a f=none):=hE
    clear hE
    go_enter Tryz.func167,Tryz.ntmps167
    go_wp2
    go_ret2
    exact⟨by rw[HE.out];rfl,rfl⟩
   ·rw[if_neg h4] at hE
    have HE:Hid (zcn T a f=some v):=hE
    clear hE
    go_enter Tryz.func167,Tryz.ntmps167
    go_wp2
    go_ret2
    exact⟨by rw[HE.out];rfl,rfl⟩
  ·have HE:Hid (zcn T a f=none):=by unfold zcn;rw[Hid,if_neg (by omega)]
   obtain⟨ao,cap,rfl⟩:=zac h1.ql
   clear h1
   go_enter Tryz.func167,Tryz.ntmps167
   go_wp2
   go_ret2
   exact⟨by rw[HE.out];rfl,rfl⟩
 ·have HE:Hid (zcn T a f=none):=by unfold zcn;rw[Hid,if_neg (by omega)]
  obtain⟨ao,cap,rfl⟩:=zac h1.ql
  clear h1
  go_enter Tryz.func167,Tryz.ntmps167
  go_wp2
  go_ret2
  exact⟨by rw[HE.out];rfl,rfl⟩
theorem zh2(w:World)(tb:Nat)(T:zad)(fp:List Nat)(a f:Nat)(h:zat lo w tb T fp) :
  Calls Tryz.prog 130 #[.pointer (some ⟨tb,0,none⟩),.int .i64 a,.int .i64 f] w fun e w'=>e=.returned (zpc (zax T a f))/\w'=w:=by
 have HL:Hid (Calls Tryz.prog 167 #[.pointer (some ⟨tb,0,none⟩),.int .i64 a,.int .i64 f] w fun e w'=>e=.returned (zpc (zcn T a f))/\w'=w):=zlc w tb T fp a f h
 obtain⟨nv,ns,h1,rfl⟩:=h
 obtain⟨hc,hfz⟩:=h1.box.rules
 have hlt:=h1.box.lt
 have hwd:=h1.wide
 have hmn:=h1.many
 cases hl:zcn T a f with
 |none =>
  have HE:Hid (zax T a f=none):=by unfold zax;rw[Hid,hl]
  rw[hl] at HL
  simp only[zpc,ubh,ua9] at HL
  clear hl h1
  go_enter Tryz.func130,Tryz.ntmps130
  go_wp2_with (first|(go_at_call 167;refine HL.out.mono ?_;rintro e w' ⟨rfl,hww⟩;obtain rfl:=hww.symm))
  go_ret2
  exact⟨by rw[HE.out];rfl,rfl⟩
 |some u =>
  have hin:a < T.ql.length/\f < T.qg:=by
   unfold zcn at hl
   split at hl
   ·assumption
   ·cases hl
  obtain⟨gn,cap,gl,rfl,hgn,hgl,_,hn1,hv1⟩:=h1.downAt a f hin.1 hin.2
  have hE:zax T a f=if u=f then some (T.ql[a].down.getD f 0) else none:=by
   unfold zax;rw[hl];simp[List.getD_eq_getElem?_getD,hin.1]
  rw[hl] at HL
  simp only[zpc,uas,ua4] at HL
  obtain⟨h2,h3⟩:=hin
  generalize T.ql[a].down.getD f 0=v at *
  clear hl h1
  by_cases h4:u=f
  ·subst h4
   rw[if_pos rfl] at hE
   have HE:Hid (zax T a u=some v):=hE
   clear hE
   go_enter Tryz.func130,Tryz.ntmps130
   go_wp2_with (first|(go_at_call 167;refine HL.out.mono ?_;rintro e w' ⟨rfl,hww⟩;obtain rfl:=hww.symm))
   go_ret2
   exact⟨by rw[HE.out];rfl,rfl⟩
  ·rw[if_neg h4] at hE
   have HE:Hid (zax T a f=none):=hE
   clear hE
   go_enter Tryz.func130,Tryz.ntmps130
   go_wp2_with (first|(go_at_call 167;refine HL.out.mono ?_;rintro e w' ⟨rfl,hww⟩;obtain rfl:=hww.symm))
   go_ret2
   exact⟨by rw[HE.out];rfl,rfl⟩
theorem zq5(w:World)(tb:Nat)(T:zad)(fp:List Nat)(h:zat lo w tb T fp) :
  Calls Tryz.prog 209 #[.pointer (some ⟨tb,0,none⟩)] w fun e w'=>e=.returned (.int .i64 (T.count:Nat))/\w'=w:=by
 obtain⟨nv,ns,h1,rfl⟩:=h
 obtain⟨hc,hfz⟩:=h1.box.rules
 have hlt:=h1.box.lt
 clear h1
 go_enter Tryz.func209,Tryz.ntmps209
 go_wp2
 go_ret
 exact⟨rfl,rfl⟩
end Go.Proofs.YteampbddflhngaaGreat
namespace Go.Proofs.YteampbddflhngaaGreat
set_option maxRecDepth 100000
set_option maxHeartbeats 2000000
open Go.RowKit
variable {lo:Nat}
variable {ns:List (Nat × Nat)}
theorem ints_at:∀(ns:List (Nat × Nat)) (k:Nat) (hk:k < ns.length),(intsOf ns)[k * 2]?=some ns[k].1/\(intsOf ns)[k * 2+1]?=some ns[k].2
 |[],k,hk=>by simp at hk
 |p::r,0,_=>by simp[intsOf]
 |p::r,k+1,hk=>by
  have:=ints_at r k (by simpa using hk)
  simp only[intsOf,ua5] at this ⊢
  rw[show(k+1) * 2=k * 2+1+1 from by omega,show k * 2+1+1+1=k * 2+1+1+1 from rfl]
  simpa using this
theorem zok{l:List Nat}(h:l.Nodup){i j x y:Nat}(hi:l[i]?=some x)(hj:l[j]?=some y)(hne:i≠j):x≠y:=by
 obtain⟨h1,rfl⟩:=uat.1 hi
 obtain⟨h2,rfl⟩:=uat.1 hj
 exact z6i (f:=id) (by simpa using h) h1 h2 hne
theorem zrq(h:(intsOf ns).Nodup){i j:Nat}(hi:i < ns.length)(hj:j < ns.length):(i≠j->ns[i].1≠ns[j].1/\ns[i].2≠ns[j].2)/\ns[i].1≠ns[j].2 :=
 ⟨fun hne=>⟨zok h (ints_at ns i hi).1 (ints_at ns j hj).1 (by omega),zok h (ints_at ns i hi).2 (ints_at ns j hj).2 (by omega)⟩,zok h (ints_at ns i hi).1 (ints_at ns j hj).2 (by omega)⟩
def setNode(T:zad)(a:Nat)(n:zhi):zad:={ T with ql:=T.ql.set a n }
theorem zdk.setLeap{w:World}{tb:Nat}{T:zad}{nv:Value}(h:zdk lo w tb T nv ns)(a u x:Nat)(ha:a < T.ql.length)(h2:a < ns.length)(hu:u < T.qg) :
  zdk lo (w.setCell ⟨ns[a].1,u,none⟩ (.int .i64 (x:Nat))) tb (setNode T a ⟨T.ql[a].leap.set u x,T.ql[a].down⟩) nv ns:=by
 have hl:=h.leapLen a ha
 have hs:=zas.set w ns[a].1 u (.int .i64 (x:Nat))
 have hA:=h.leap a ha h2
 refine⟨h.low,h.box.save hs (by have:=zbr hA h.box (by decide) rfl;simpa using Ne.symm this),?_,by simpa [setNode] using h.len,fun i hi hi2=>?_,fun i hi hi2=>?_,h.apart,h.wide,by simpa [setNode] using h.many,h.deep,h.few⟩
 ·have:=zbl h.ql hs (fun b hb hm=>zjf hA h.ql (by decide) rfl (by simp at hm;rw[← hm];exact hb))
  simpa [setNode] using this
 ·have hi':i < T.ql.length:=by simpa [setNode] using hi
  by_cases e:i=a
  ·subst e
   have q:=zb4 hA u (by simp;omega) (.int .i64 (x:Nat))
   simp only[setNode,ucf]
   rw[ucj]
   exact q
  ·simp only[setNode,ucn (Ne.symm e)]
   exact zbl (h.leap i hi' hi2) hs (fun b hb hm=>by simp[sl,Value.ownBlock] at hb hm;exact((zrq h.apart hi2 h2).1 e).1 (hb.trans hm))
 ·have hi':i < T.ql.length:=by simpa [setNode] using hi
  have q:=zbl (h.down i hi' hi2) hs (fun b hb hm=>by simp[sl,Value.ownBlock] at hb hm;exact(zrq h.apart h2 hi2).2 (hm.symm.trans hb.symm))
  by_cases e:i=a
  ·subst e
   simp only[setNode,ucf]
   exact q
  ·simp only[setNode,ucn (Ne.symm e)]
   exact q
theorem zdk.setDown{w:World}{tb:Nat}{T:zad}{nv:Value}(h:zdk lo w tb T nv ns)(a u x:Nat)(ha:a < T.ql.length)(h2:a < ns.length)(hu:u < T.qg) :
  zdk lo (w.setCell ⟨ns[a].2,u,none⟩ (.int .i64 (x:Nat))) tb (setNode T a ⟨T.ql[a].leap,T.ql[a].down.set u x⟩) nv ns:=by
 have hl:=h.downLen a ha
 have hs:=zas.set w ns[a].2 u (.int .i64 (x:Nat))
 have hA:=h.down a ha h2
 refine⟨h.low,h.box.save hs (by have:=zbr hA h.box (by decide) rfl;simpa using Ne.symm this),?_,by simpa [setNode] using h.len,fun i hi hi2=>?_,fun i hi hi2=>?_,h.apart,h.wide,by simpa [setNode] using h.many,h.deep,h.few⟩
 ·have:=zbl h.ql hs (fun b hb hm=>zjf hA h.ql (by decide) rfl (by simp at hm;rw[← hm];exact hb))
  simpa [setNode] using this
 ·have hi':i < T.ql.length:=by simpa [setNode] using hi
  have q:=zbl (h.leap i hi' hi2) hs (fun b hb hm=>by simp[sl,Value.ownBlock] at hb hm;exact(zrq h.apart hi2 h2).2 (hb.trans hm))
  by_cases e:i=a
  ·subst e
   simp only[setNode,ucf]
   exact q
  ·simp only[setNode,ucn (Ne.symm e)]
   exact q
 ·have hi':i < T.ql.length:=by simpa [setNode] using hi
  by_cases e:i=a
  ·subst e
   have q:=zb4 hA u (by simp;omega) (.int .i64 (x:Nat))
   simp only[setNode,ucf]
   rw[ucj]
   exact q
  ·simp only[setNode,ucn (Ne.symm e)]
   exact zbl (h.down i hi' hi2) hs (fun b hb hm=>by simp[sl,Value.ownBlock] at hb hm;exact((zrq h.apart hi2 h2).1 e).2 (hb.trans hm))
structure Wrote (lo:Nat) (w w':World) (tb:Nat) (T:zad) (fp:List Nat) (fp':List Nat):Prop where
 trie:zat lo w' tb T fp'
 save:zas fp w w'
 qo:∀ b∈fp',b∈fp∨w.heap.size<=b
theorem zo2(T:zad)(a:Nat)(n m:zhi):setNode (setNode T a n) a m=setNode T a m:=by simp[setNode]
theorem z8u{T:zad}{a v d:Nat}(ha:a < T.ql.length)(hv:v < T.qg):ze6 T a v d=setNode T a ⟨zgh v (v+1) T.ql[a].leap,T.ql[a].down.set v d⟩:=by
 unfold ze6;rw[if_pos ⟨ha,hv⟩];simp[setNode,z4v,List.getD_eq_getElem?_getD,ha]
theorem put_any(w:World)(tb:Nat)(T:zad)(fp:List Nat)(a v d:Nat)(h:zat lo w tb T fp) :
  Calls Tryz.prog 203 #[.pointer (some ⟨tb,0,none⟩),.int .i64 a,.int .i64 v,.int .i64 d] w fun e w'=>e=.returned (.tuple #[])/\Wrote lo w w' tb (ze6 T a v d) fp fp:=by
 have hh:=h
 obtain⟨nv,ns,h1,rfl⟩:=h
 have hwd:=h1.wide
 have hmn:=h1.many
 by_cases h2:a < T.ql.length
 ·by_cases h3:v < T.qg
  ·have hi2:a < ns.length:=by rw[h1.len];exact h2
   have HP:Hid (ze6 T a v d=setNode T a ⟨zgh v (v+1) T.ql[a].leap,T.ql[a].down.set v d⟩):=z8u h2 h3
   obtain⟨gn,cap,gl,rfl,hgn,hgl,⟨_,rfl⟩,hn1,hv1⟩:=h1.downAt a v h2 h3
   obtain⟨hc,hfz⟩:=h1.box.rules
   have hlt:=h1.box.lt
   have hfd:=zbt (h1.down a h2 hi2)
   have hfl:=zbt (h1.leap a h2 hi2)
   have hset:=h1.setDown a v d h2 hi2 h3
   have H1:Hid (zdk lo w tb T (.slice (some ⟨gn,0,none⟩) T.ql.length cap) ns):=h1
   clear h1 hh
   have hE0:T.ql[a].down.set v d=T.ql[a].down.set v d:=rfl
   generalize hdw:T.ql[a].down.set v d=dw at *
   generalize hlp:T.ql[a].leap=lp at *
   clear hE0 hdw hlp
   go_enter Tryz.func203,Tryz.ntmps203
   go_wp2
   clear hn1 hv1 hc hfz hlt hfd hfl hgl hgn
   go_loopw [8] (fun v8 wr=>∃(n:Nat) (l:List Nat),n<=v+1/\v8=.int .i64 ((n:Int) - 1)/\zdk lo wr tb (setNode T a ⟨l,dw⟩) (.slice (some ⟨gn,0,none⟩) T.ql.length cap) ns/\Hid (zgh v (v+1) lp=zgh v n l)/\zas (fpT tb (.slice (some ⟨gn,0,none⟩) T.ql.length cap) ns) w wr) (fun v8 _=>(intOf v8+1).toNat)
   case atStart =>
    refine⟨v+1,lp,uaa _,by go_num,hset,rfl,(zas.set _ _ _ _).more fun x hx=>?_⟩
    simp only[ua3] at hx
    subst hx
    simp only[fpT,uag,uao]
    exact Or.inr (Or.inr (zna hi2).2)
   case round =>
    clear hset
    obtain⟨n,l,hn,rfl,hti,hlow,hsv⟩:=hrel
    have h2':a < (setNode T a ⟨l,dw⟩).ql.length:=by simpa [setNode] using h2
    have hnode:(setNode T a ⟨l,dw⟩).ql[a]=⟨l,dw⟩:=by simp[setNode]
    have hwd':(setNode T a ⟨l,dw⟩).qg=T.qg:=rfl
    obtain⟨hc,hfz⟩:=hti.box.rules
    have hlt:=hti.box.lt
    have hfl:=zbt (hti.leap a h2' hi2)
    have HDONE:Hid (zgh v n l=l->Wrote lo w wr tb (ze6 T a v d) (fpT tb (.slice (some ⟨gn,0,none⟩) T.ql.length cap) ns) (fpT tb (.slice (some ⟨gn,0,none⟩) T.ql.length cap) ns)):=fun e=>⟨⟨_,ns,by rw[HP.out,hlow.out,e];exact hti,rfl⟩,hsv,fun b hb=>Or.inl hb⟩
    cases n with
    |zero =>
     clear hti
     go_wp2
     go_end0
     exact⟨rfl,HDONE.out rfl⟩
    |succ m =>
     have e:((m+1:Nat):Int) - 1=(m:Int):=by omega
     rw[e]
     have hm:m < T.qg:=by omega
     obtain⟨gn',cap',gl,hnv,hgn,hgl,⟨_,rfl⟩,hn1,hv1⟩:=hti.leapAt a m h2' (by rw[hwd'];exact hm)
     simp only[Value.slice.injEq,uab,Addr.mk.injEq] at hnv
     obtain⟨⟨rfl,_⟩,_,rfl⟩:=hnv
     rw[hnode] at hv1
     rw[hwd'] at hn1
     have hs2:=hti.setLeap a m v h2' hi2 (by rw[hwd'];exact hm)
     rw[hnode,zo2] at hs2
     have HL:Hid (zgh v (m+1) l=if l.getD m 0 > v then zgh v m (l.set m v) else l):=by rw[Hid,zgh]
     have HTI:Hid (zdk lo wr tb (setNode T a ⟨l,dw⟩) (.slice (some ⟨gn,0,none⟩) T.ql.length cap) ns):=hti
     clear hti h2' hnode e
     have HS2:Hid (zdk lo (wr.setCell ⟨ns[a].1,m,none⟩ (.int .i64 (v:Nat))) tb (setNode T a ⟨l.set m v,dw⟩) (.slice (some ⟨gn,0,none⟩) T.ql.length cap) ns):=hs2
     clear hs2
     simp only at hv1
     generalize l.getD m 0=x at *
     by_cases hx:x > v
     ·rw[if_pos hx] at HL
      go_wp2
      go_roundw
      case rel =>
       refine⟨m,l.set m v,by omega,by go_num,HS2.out,hlow.trans HL,hsv.trans ((zas.set _ _ _ _).more fun x hx=>?_)⟩
       simp only[ua3] at hx
       subst hx
       simp only[fpT,uag,uao]
       exact Or.inr (Or.inr (zna hi2).1)
      case measure=>simp[intOf]
     ·rw[if_neg hx] at HL
      go_wp2
      go_end0
      exact⟨rfl,HDONE.out HL.out⟩
  ·have HP:Hid (ze6 T a v d=T):=by unfold ze6;rw[Hid,if_neg (by omega)]
   obtain⟨ao,cap,rfl⟩:=zac h1.ql
   obtain⟨hc,hfz⟩:=h1.box.rules
   have hlt:=h1.box.lt
   clear h1
   go_enter Tryz.func203,Tryz.ntmps203
   go_wp2
   (try simp only[Exit.inBlock,Exit.then]);refine bodyPost_ret (results_none rfl _ _ _) rfl ?_
   exact⟨rfl,by rw[HP.out];exact⟨hh,zas.refl _ _,fun b hb=>Or.inl hb⟩⟩
 ·have HP:Hid (ze6 T a v d=T):=by unfold ze6;rw[Hid,if_neg (by omega)]
  obtain⟨ao,cap,rfl⟩:=zac h1.ql
  obtain⟨hc,hfz⟩:=h1.box.rules
  have hlt:=h1.box.lt
  clear h1
  go_enter Tryz.func203,Tryz.ntmps203
  go_wp2
  (try simp only[Exit.inBlock,Exit.then]);refine bodyPost_ret (results_none rfl _ _ _) rfl ?_
  exact⟨rfl,by rw[HP.out];exact⟨hh,zas.refl _ _,fun b hb=>Or.inl hb⟩⟩
end Go.Proofs.YteampbddflhngaaGreat
namespace Go.Proofs.YteampbddflhngaaGreat
set_option maxRecDepth 100000
set_option maxHeartbeats 4000000
open Go.RowKit
variable {lo:Nat}
theorem Tryz.infoNode:(Tryz.prog.info? 273).map (fun i=>(i.zero,i.size,i.bytes))=some (some (.agg #[.slice none 0 0,.slice none 0 0]),2,48):=by kernel_rfl
section
variable {P:Program} {ops:Array Oper} {o:Oper} {a:Act} {K:Act->World->Prop} {Q:Exit->Act->World->Prop}
theorem zfz{E:Prop}(wO wA:World)(l:List Value)(te:TypeId)(hg:o.guard=none)(s x:Operand)(t:TypeId)
  (ho:o.op=.call { callee:=.builtin .append,args:=#[s,x],argTypes:=#[t,t] })
  (base:Nat) (e:TypeId) (i:TypeInfo) (z:Value) (size bytes:Nat) (ht:P.underlying t=some (.slice e)) (hi:P.info? e=some i) (hz:i.zero=some z)
  (hsize:i.size=size) (hby:i.bytes=bytes) (hzs:z.cells.size=size) (hsz:0 < size)
  (v:Value) (n:Nat) (xs:List Value) (hs:a.eval s=v) (hown:wO.ownsRow base e size v n xs) (hbO:Below wO.heap.size wO wA)
  (b c:Nat) (hx:a.eval x=.slice (some ⟨b,0,none⟩) 1 c) (hb:Box wA b l.toArray te) (hl:l.length=size) (h1:∀ u∈l,u.oneCell'=true)
  (hn:n<=10000000000) (hbytes:bytes<=1000) (hbase:base<=wO.heap.size)
  (h:∀ v' w',w'.ownsRow base e size v' (n+1) (xs++l)->zas v.ownBlock.toList wO w'->(v'.ownBlock=v.ownBlock∨∃ g,v'.ownBlock=some g/\wO.heap.size<=g)->(∀ k,k < wA.heap.size->some k≠v.ownBlock->w'.heap[k]?=wA.heap[k]?)->wA.heap.size<=w'.heap.size->K (a.put o.dst v') w') :
  if Region.wanted o (yielded ops a.tmps)=true then Oper.wp P o a wA K Q else E:=by
 have hw:Region.wanted o (yielded ops a.tmps)=true:=by simp[Region.wanted,hg]
 rw[if_pos hw]
 have hown':=zaa hown hbO
 have hsz0:=hbO.size
 obtain⟨v',w',hr,h2,hgr,_,hat⟩:=run_append_own_at (P:=P) wA base t o.type e i z size bytes ht hi hz hsize hby hzs hsz v n xs hown' ⟨b,0,none⟩ 1 c l (by omega) (by
  intro j u hj
  rw[Addr.add_lit,ubl,hb.rules.1]
  simpa using hj) h1 (by unfold maxLen;omega) (by
  have:(n+1) * bytes<=10000000001 * 1000:=Nat.mul_le_mul (by omega) hbytes
  omega) (by omega)
 unfold Oper.wp execOp
 simp only[ho,resolve,invoke,builtin,Sem.run_bind,Sem.run_pure,Result.andThen_ok,List.map_toArray,ubu,List.map_nil,hs,hx,hr]
 refine h v' w' h2 ⟨hgr.os.trans hbO.os,hgr.tape.trans hbO.tape,hgr.output.trans hbO.output,by have:=hgr.size;omega,fun k hk hm=>?_⟩ ?_ (fun k hk hne=>hgr.block k hk hne) hgr.size
 ·rw[hgr.block k (by omega) (fun e=>hm (by rw[← e];simp))]
  exact hbO.block k hk
 ·rcases hat with h3|h3
  ·exact Or.inl h3
  ·exact Or.inr ⟨_,h3,by omega⟩
end
theorem zoq{W:World}{g n:Nat}{T:TypeId}(h:W.heap[g]?=some (.cells (madeCells #[.int .i64 0] n) T (0,0)))(hg:lo<=g)(hn:n<=maxLen):W.ownsRow lo T 1 (sl g n) n ((List.replicate n 0).map ivN):=by
 refine⟨by simp,Or.inr ⟨g,n,madeCells #[.int .i64 0] n,rfl,hg,h,uaa _,hn,by rw[size_madeCells];omega,?_⟩⟩
 apply uce
 intro i
 by_cases hi:i < n
 ·simp[hi,madeCells,ivN,Nat.mod_one]
 ·simp[List.getElem?_take,hi]
theorem zrp(w:World)(a b c:Obj):((((w.alloc a).alloc b).alloc c).drew).heap[w.heap.size]?=some a/\((((w.alloc a).alloc b).alloc c).drew).heap[w.heap.size+1]?=some b/\((((w.alloc a).alloc b).alloc c).drew).heap[w.heap.size+1+1]?=some c:=by
 refine⟨?_,?_,?_⟩
 ·show(((w.heap.push a).push b).push c)[w.heap.size]?=_
  simp[Array.getElem?_push]
  omega
 ·show(((w.heap.push a).push b).push c)[w.heap.size+1]?=_
  rw[Array.getElem?_push,if_neg (by simp),Array.getElem?_push,if_pos (by simp)]
 ·show(((w.heap.push a).push b).push c)[w.heap.size+1+1]?=_
  rw[Array.getElem?_push,if_pos (by simp)]
theorem zpm(wd:Nat)(ns:List (Nat × Nat))(x:Nat × Nat):ze1 wd (ns++[x])=ze1 wd ns++[sl x.1 wd,sl x.2 wd]:=by simp[ze1]
theorem ztl(ns:List (Nat × Nat))(x:Nat × Nat):intsOf (ns++[x])=intsOf ns++[x.1,x.2]:=by simp[intsOf]
theorem zdk.grow{w wr w2:World}{tb:Nat}{T:zad}{nv nv':Value}{ns:List (Nat × Nat)}{gl gd:Nat}(h:zdk lo w tb T nv ns)(hb:Below w.heap.size w wr)(hgl:w.heap.size<=gl)(hgd:w.heap.size<=gd)(hne:gl≠gd)
  (h1:wr.ownsRow w.heap.size 3 1 (sl gl T.qg) T.qg ((List.replicate T.qg T.qg).map ivN)) (h2:wr.ownsRow w.heap.size 3 1 (sl gd T.qg) T.qg ((List.replicate T.qg 0).map ivN))
  (hs:zas nv.ownBlock.toList wr w2) (ho:w2.ownsRow lo 273 2 nv' (T.ql.length+1) (ze1 T.qg ns++[sl gl T.qg,sl gd T.qg])) (hat:nv'.ownBlock=nv.ownBlock∨∃ g,nv'.ownBlock=some g/\wr.heap.size<=g) (hm:T.ql.length < 100000000) :
  ∃ fp',Wrote lo w (w2.setCell ⟨tb,2,none⟩ nv') tb (zb8 T) (fpT tb nv ns) fp':=by
 have hlo:lo<=w.heap.size:=by have:=h.low;have:=h.box.lt;omega
 have hbx:=h.box.below hb
 have hnd:=zaa h.ql hb
 have hbx2:=hbx.save hs (zdu hnd hbx (by decide))
 have hset:=zas.set w2 tb 2 nv'
 have nt:∀ {b1:Nat} {e:TypeId} {s1:Nat} {v:Value} {n1:Nat} {xs:List Value},w2.ownsRow b1 e s1 v n1 xs->e≠229->∀ b,v.ownBlock=some b->b∉[tb]:=fun ho hT b hvb hm=>zbr ho hbx2 hT hvb (by simpa using hm)
 have two:∀ {b1:Nat} {v:Value} {n1:Nat} {xs:List Value},wr.ownsRow b1 3 1 v n1 xs->(w2.setCell ⟨tb,2,none⟩ nv').ownsRow b1 3 1 v n1 xs:=fun q=>by
  have q2:=zbl q hs (fun b hvb hm=>zjf q hnd (by decide) hvb (zcy hm))
  exact zbl q2 hset (nt q2 (by decide))
 have hB2:zas (fpT tb nv ns) w (w2.setCell ⟨tb,2,none⟩ nv'):=((zas.of (M:=fpT tb nv ns) hb).newer hs (fun x hx=>Or.inl (by simp only[fpT,uag,uao];exact Or.inr (Or.inl hx)))).newer hset (fun x hx=>Or.inl (by simp at hx;simp[fpT,hx]))
 refine⟨_,⟨nv',ns++[(gl,gd)],⟨h.low,?_,?_,by simp[zb8,h.len],fun i hi hi2=>?_,fun i hi hi2=>?_,?_,h.wide,by simp[zb8];omega,h.deep,h.few⟩,rfl⟩,hB2,fun b hb2=>?_⟩
 ·have hq:=hbx2.set 2 nv';simpa [zb8] using hq
 ·rw[zpm]
  have:=zbl ho hset (nt ho (by decide))
  simpa [zb8] using this
 ·simp[zb8] at hi
  by_cases hlt:i < T.ql.length
  ·have hi3:i < ns.length:=by rw[h.len];exact hlt
   simp only[zb8,uan hlt,uan hi3]
   exact two (zaa (h.leap i hlt hi3) hb)
  ·obtain rfl:i=T.ql.length:=by omega
   have e:(ns++[(gl,gd)])[T.ql.length]=(gl,gd):=by simp[← h.len]
   rw[e]
   simp only[zb8,uck]
   exact two (zbf h1 hlo)
 ·simp[zb8] at hi
  by_cases hlt:i < T.ql.length
  ·have hi3:i < ns.length:=by rw[h.len];exact hlt
   simp only[zb8,uan hlt,uan hi3]
   exact two (zaa (h.down i hlt hi3) hb)
  ·obtain rfl:i=T.ql.length:=by omega
   have e:(ns++[(gl,gd)])[T.ql.length]=(gl,gd):=by simp[← h.len]
   rw[e]
   simp only[zb8,uck]
   exact two (zbf h2 hlo)
 ·rw[ztl,List.nodup_append]
  refine⟨h.apart,by simp[hne],fun a ha b hb2 e=>?_⟩
  have:=(h.lt a (by simp only[fpT,uag,uao];exact Or.inr (Or.inr ha))).2
  simp at hb2
  omega
 ·simp only[fpT,uag,uao,ztl] at hb2 ⊢
  rcases hb2 with q|q|q|q
  ·simp[q]
  ·rcases hat with e|⟨g,e,hg⟩
   ·rw[e] at q;simp[q]
   ·rw[e] at q;simp at q;have:=hb.size;right;omega
  ·simp[q]
  ·simp at q;right;omega
theorem z5v(k n x:Nat)(hk:k < n):((List.replicate k x++List.replicate (n - k) 0).map ivN)[k]?=some (.int .i64 (0:Int)):=by
 obtain⟨m,hm⟩:∃ m,n - k=m+1:=⟨n - k - 1,by omega⟩
 rw[hm,ub5,ua1 (by simp),udd,ubs]
 rfl
theorem z2f(k n x:Nat)(hk:k < n):((List.replicate k x++List.replicate (n - k) 0).map ivN).set k (.int .i64 (x:Nat))=(List.replicate (k+1) x++List.replicate (n - (k+1)) 0).map ivN:=by
 obtain⟨m,hm⟩:∃ m,n - k=m+1:=⟨n - k - 1,by omega⟩
 rw[show n - (k+1)=m from by omega,hm,show Value.int .i64 (x:Nat)=ivN x from rfl,← ucj,ubd _ _ (by simp),udd,ubs,List.replicate_succ' (n:=k),uba]
 rfl
def zm6(w wx:World)(wd:Nat)(s:Value):Prop:=∃ nb gl gd,s=.pointer (some ⟨nb,0,none⟩)/\gl≠gd/\w.heap.size<=nb/\Box wx nb #[.slice (some ⟨gl,0,none⟩) wd wd,.slice (some ⟨gd,0,none⟩) wd wd] 273/\wx.ownsRow w.heap.size 3 1 (sl gl wd) wd ((List.replicate wd 0).map ivN)/\wx.ownsRow w.heap.size 3 1 (sl gd wd) wd ((List.replicate wd 0).map ivN)/\Below w.heap.size w wx
theorem zm6.mk'{w wx:World}{wd nb gl gd:Nat}(hbx:Box wx nb #[.slice (some ⟨gl,0,none⟩) wd wd,.slice (some ⟨gd,0,none⟩) wd wd] 273)(hl:wx.heap[gl]?=some (.cells (madeCells #[.int .i64 0] wd) 3 (0,0)))(hd:wx.heap[gd]?=some (.cells (madeCells #[.int .i64 0] wd) 3 (0,0)))(hne:gl≠gd)(hnb:w.heap.size<=nb)(h1:w.heap.size<=gl)(h2:w.heap.size<=gd)(hw:wd<=1000)(hb:Below w.heap.size w wx):zm6 w wx wd (.pointer (some ⟨nb,0,none⟩)) :=
 ⟨nb,gl,gd,rfl,hne,hnb,hbx,zoq hl h1 (by unfold maxLen;omega),zoq hd h2 (by unfold maxLen;omega),hb⟩
theorem zxr(w:World)(tb:Nat)(T:zad)(fp:List Nat)(h:zat lo w tb T fp)(hm:T.ql.length < 100000000) :
  Calls Tryz.prog 162 #[.pointer (some ⟨tb,0,none⟩)] w fun e w'=>e=.returned (.int .i64 (T.ql.length:Nat))/\∃ fp',Wrote lo w w' tb (zb8 T) fp fp':=by
 obtain⟨nv,ns,h1,rfl⟩:=h
 have hwd:=h1.wide
 have hmn:=h1.many
 have hmk:=fun W:World=>run_make_row' (P:=Tryz.prog) (w:=W) 24 3 (.int .i64 0) 8 Tryz.underlying24 Tryz.infoInt rfl .i64 .i64 T.qg (by omega) (by omega)
 obtain⟨hc,hfz⟩:=h1.box.rules
 have hlt:=h1.box.lt
 have H1:Hid (zdk lo w tb T nv ns):=h1
 clear h1
 have hc0:w.cell? ⟨tb,0,none⟩=some (.int .i64 (T.qg:Nat)):=by simp[hc]
 go_enter Tryz.func162,Tryz.ntmps162
 go_upto_region 1 with fail
 go_cut [3] from 5 to 15 (fun s3 wx=>zm6 w wx T.qg s3)
 case first =>
  go_region_held3 (fun w'=>w'.cell? ⟨tb,0,none⟩=some (.int .i64 (T.qg:Nat))) (exact(Below.cell (w:=w) (p:=⟨tb,0,none⟩) (show Below w.heap.size w _ from(by go_grown)) hlt).trans hc0) (fail)
  all_goals
   go_wp2_with fail
   go_meet
   case rel =>
    apply zm6.mk'
    ·first|exact(zrp w _ _ _).1|exact(zrp w _ _ _).2.1|exact(zrp w _ _ _).2.2
    ·first|exact(zrp w _ _ _).1|exact(zrp w _ _ _).2.1|exact(zrp w _ _ _).2.2
    ·first|exact(zrp w _ _ _).1|exact(zrp w _ _ _).2.1|exact(zrp w _ _ _).2.2
    ·omega
    ·omega
    ·omega
    ·omega
    ·exact hwd
    ·exact(by go_grown)
 case rest =>
  obtain⟨nb,gl,gd,rfl,hne,hnb,hbx,hol,hod,hBc⟩:=hcut
  clear hmk hc0 hc hfz hlt
  obtain⟨hnc,hnf⟩:=hbx.rules
  have hnl:=hbx.lt
  have hbt:=H1.out.box.below hBc
  obtain⟨hc,hfz⟩:=hbt.rules
  have hlt:=hbt.lt
  go_wp2
  clear hnc hnf hnl hc hfz hlt
  go_loopw [19] (fun v19 wr=>∃ k:Nat,k<=T.qg/\v19=.int .i64 k/\Box wr nb #[.slice (some ⟨gl,0,none⟩) T.qg T.qg,.slice (some ⟨gd,0,none⟩) T.qg T.qg] 273/\Box wr tb #[.int .i64 (T.qg:Nat),.int .i64 (T.qp:Nat),nv,.int .i64 (T.count:Nat)] 229/\wr.ownsRow w.heap.size 3 1 (sl gl T.qg) T.qg ((List.replicate k T.qg++List.replicate (T.qg - k) 0).map ivN)/\wr.ownsRow w.heap.size 3 1 (sl gd T.qg) T.qg ((List.replicate T.qg 0).map ivN)/\Below w.heap.size w wr) (fun i _=>T.qg - (intOf i).toNat)
  case atStart=>exact⟨0,uaj _,rfl,hbx,hbt,by simpa using hol,hod,hBc⟩
  case round =>
   clear hbx hol hod hBc hbt
   obtain⟨k,hk,rfl,hbx,hbt,hol,hod,hBc⟩:=hrel
   obtain⟨hnc,hnf⟩:=hbx.rules
   have hnl:=hbx.lt
   obtain⟨hc,hfz⟩:=hbt.rules
   have hlt:=hbt.lt
   by_cases hkl:k < T.qg
   ·have hgl:=zdq hol rfl
    have hglw:=zeg hol rfl
    have hfl:=zbt hol
    obtain⟨gl',cap',hv,_,_,hcl⟩:=zal hol (by omega)
    simp only[sl,Value.slice.injEq,uab,Addr.mk.injEq] at hv
    obtain⟨⟨rfl,_⟩,_,hcap⟩:=hv
    clear hcap
    have hcell:=hcl k _ (z5v k T.qg T.qg hkl)
    have hset:=zb4 hol k (by simp;omega) (.int .i64 (T.qg:Nat))
    rw[z2f k T.qg T.qg hkl] at hset
    have hnn:gl≠nb:=zbr hol hbx (by decide) rfl
    have hnt:gl≠tb:=zbr hol hbt (by decide) rfl
    have hod2:=zbl hod (zas.set wr gl k (.int .i64 (T.qg:Nat))) (fun b hb hm=>by simp[sl,Value.ownBlock] at hb hm;omega)
    have hbx2:=hbx.set_ne (Ne.symm hnn) k (.int .i64 (T.qg:Nat))
    have hbt2:=hbt.set_ne (Ne.symm hnt) k (.int .i64 (T.qg:Nat))
    have hB2:=hBc.setCell (p:=⟨gl,k,none⟩) hglw (.int .i64 (T.qg:Nat))
    clear hcl
    go_wp2
    go_region
    all_goals
     go_wp2
     go_roundw
     case rel=>exact⟨k+1,by omega,by go_num,Box.drew hbx2,Box.drew hbt2,zaa hset (Below.refl _ _).drew,zaa hod2 (Below.refl _ _).drew,hB2.drew⟩
     case measure=>simp[intOf];omega
   ·obtain rfl:k=T.qg:=by omega
    rw[ubs,List.replicate_zero,ub3] at hol
    obtain⟨i0,hi,hz0,hzs,hzb⟩:=info_parts Tryz.infoNode
    obtain⟨ao,cap,rfl⟩:=zac H1.out.ql
    have hown:=zaa H1.out.ql hBc
    have hlo:lo<=w.heap.size:=by have:=H1.out.low;have:=H1.out.box.lt;omega
    have hzz:=hBc.size
    go_wp2
    go_region_law (first|(refine zfz wr _ [.slice (some ⟨gl,0,none⟩) T.qg T.qg,.slice (some ⟨gd,0,none⟩) T.qg T.qg] 273 rfl (.tmp 35) (.tmp 37) 227 rfl lo 273 i0 _ 2 48 Tryz.underlying227 hi hz0 hzs hzb rfl (by decide) (.slice ao T.ql.length cap) T.ql.length (ze1 T.qg ns) (by simp[Act.eval]) hown (by exact(by go_grown)) wr.heap.size 1 (by simp[Act.eval]) (by exact Box.drew (Box.new _ _ _)) rfl (by simp[Value.oneCell']) (by omega) (by omega) (by omega) ?_;intro v' w2 ho3 hS2 hat2 hk2 hz2';obtain⟨ao4,cap4,rfl⟩:=zac ho3;have hb2:=hbt.save hS2 (zdu hown hbt (by decide));obtain⟨hc2,hf2⟩:=hb2.rules;have hl2:=hb2.lt))
    all_goals
     obtain⟨fp',hW⟩:=H1.out.grow hBc (zeg hol rfl) (zeg hod rfl) hne hol hod hS2 ho3 hat2 hm
     have HW:Hid (Wrote lo w (w2.setCell ⟨tb,2,none⟩ (.slice ao4 (T.ql.length+1) cap4)) tb (zb8 T) (fpT tb (.slice ao T.ql.length cap) ns) fp'):=hW
     clear hW
     go_wp2
     go_ret
     exact⟨by simp,fp',HW.out⟩
theorem z1w(d:Nat):zby d<=3:=by unfold zby;(repeat' split) <;> omega
theorem zr7(w:World)(wd dp:Nat)(hwd:wd<=1000)(hdp:dp<=100000000) :
  Calls Tryz.prog 119 #[.int .i64 wd,.int .i64 dp] w fun e w'=>∃ tb fp,e=.returned (.pointer (some ⟨tb,0,none⟩))/\zat w.heap.size w' tb (zfv wd dp) fp/\Below w.heap.size w w':=by
 have key:∀ a b:Nat,a=za4 wd->b=zby dp->zdk w.heap.size (w.alloc (.cells #[.int .i64 (a:Nat),.int .i64 (b:Nat),.slice none 0 0,.int .i64 0] 229)) w.heap.size ⟨za4 wd,zby dp,[],0⟩ (.slice none 0 0) []:=by
  rintro a b rfl rfl
  refine⟨uaa _,Box.new _ _ _,World.ownsRow_nil _ _ _ _,rfl,fun i h=>by simp at h,fun i h=>by simp at h,by simp[intsOf],?_,by simp,?_,by simp⟩
  ·simp only[za4];split <;> omega
  ·exact z1w dp
 have HG:Hid (∀ a b:Nat,a=za4 wd->b=zby dp->Calls Tryz.prog 162 #[.pointer (some ⟨w.heap.size,0,none⟩)] (w.alloc (.cells #[.int .i64 (a:Nat),.int .i64 (b:Nat),.slice none 0 0,.int .i64 0] 229)) fun e w'=>∃ fp,e=.returned (.int .i64 0)/\zat w.heap.size w' w.heap.size (zfv wd dp) fp/\Below w.heap.size w w'):=fun a b ha hb=>by
  refine(zxr _ _ _ _ ⟨_,_,key a b ha hb,rfl⟩ (by simp)).mono fun e w' ⟨he,fp',hW⟩=>⟨fp',he,hW.trie,?_⟩
  exact((Below.refl w.heap.size w).alloc (uaa _) _).trans (hW.save.below (by simp[fpT,intsOf,Value.ownBlock]) (by simp))
 clear key
 by_cases h1:wd < 1
 ·by_cases h2:dp < 1
  ·have e1:1=za4 wd:=by unfold za4;split <;> omega
   have e2:1=zby dp:=by unfold zby;(repeat' split) <;> omega
   have H:Hid (Calls Tryz.prog 162 #[.pointer (some ⟨w.heap.size,0,none⟩)] (w.alloc (.cells #[.int .i64 ((1:Nat):Int),.int .i64 ((1:Nat):Int),.slice none 0 0,.int .i64 0] 229)) fun e w'=>∃ fp,e=.returned (.int .i64 0)/\zat w.heap.size w' w.heap.size (zfv wd dp) fp/\Below w.heap.size w w'):=HG.out _ _ e1 e2
   clear e1 e2 HG
   go_enter Tryz.func119,Tryz.ntmps119
   go_wp2_with (first|(go_at_call 162;refine H.out.mono ?_;rintro e w1 ⟨fp,rfl,ht,hb⟩))
   go_ret
   exact⟨_,fp,rfl,ht,hb⟩
  ·by_cases h3:dp > 3
   ·have e1:1=za4 wd:=by unfold za4;split <;> omega
    have e2:3=zby dp:=by unfold zby;(repeat' split) <;> omega
    have H:Hid (Calls Tryz.prog 162 #[.pointer (some ⟨w.heap.size,0,none⟩)] (w.alloc (.cells #[.int .i64 ((1:Nat):Int),.int .i64 ((3:Nat):Int),.slice none 0 0,.int .i64 0] 229)) fun e w'=>∃ fp,e=.returned (.int .i64 0)/\zat w.heap.size w' w.heap.size (zfv wd dp) fp/\Below w.heap.size w w'):=HG.out _ _ e1 e2
    clear e1 e2 HG
    go_enter Tryz.func119,Tryz.ntmps119
    go_wp2_with (first|(go_at_call 162;refine H.out.mono ?_;rintro e w1 ⟨fp,rfl,ht,hb⟩))
    go_ret
    exact⟨_,fp,rfl,ht,hb⟩
   ·have e1:1=za4 wd:=by unfold za4;split <;> omega
    have e2:dp=zby dp:=by unfold zby;(repeat' split) <;> omega
    have H:Hid (Calls Tryz.prog 162 #[.pointer (some ⟨w.heap.size,0,none⟩)] (w.alloc (.cells #[.int .i64 ((1:Nat):Int),.int .i64 ((dp:Nat):Int),.slice none 0 0,.int .i64 0] 229)) fun e w'=>∃ fp,e=.returned (.int .i64 0)/\zat w.heap.size w' w.heap.size (zfv wd dp) fp/\Below w.heap.size w w'):=HG.out _ _ e1 e2
    clear e1 e2 HG
    go_enter Tryz.func119,Tryz.ntmps119
    go_wp2_with (first|(go_at_call 162;refine H.out.mono ?_;rintro e w1 ⟨fp,rfl,ht,hb⟩))
    go_ret
    exact⟨_,fp,rfl,ht,hb⟩
 ·by_cases h2:dp < 1
  ·have e1:wd=za4 wd:=by unfold za4;split <;> omega
   have e2:1=zby dp:=by unfold zby;(repeat' split) <;> omega
   have H:Hid (Calls Tryz.prog 162 #[.pointer (some ⟨w.heap.size,0,none⟩)] (w.alloc (.cells #[.int .i64 ((wd:Nat):Int),.int .i64 ((1:Nat):Int),.slice none 0 0,.int .i64 0] 229)) fun e w'=>∃ fp,e=.returned (.int .i64 0)/\zat w.heap.size w' w.heap.size (zfv wd dp) fp/\Below w.heap.size w w'):=HG.out _ _ e1 e2
   clear e1 e2 HG
   go_enter Tryz.func119,Tryz.ntmps119
   go_wp2_with (first|(go_at_call 162;refine H.out.mono ?_;rintro e w1 ⟨fp,rfl,ht,hb⟩))
   go_ret
   exact⟨_,fp,rfl,ht,hb⟩
  ·by_cases h3:dp > 3
   ·have e1:wd=za4 wd:=by unfold za4;split <;> omega
    have e2:3=zby dp:=by unfold zby;(repeat' split) <;> omega
    have H:Hid (Calls Tryz.prog 162 #[.pointer (some ⟨w.heap.size,0,none⟩)] (w.alloc (.cells #[.int .i64 ((wd:Nat):Int),.int .i64 ((3:Nat):Int),.slice none 0 0,.int .i64 0] 229)) fun e w'=>∃ fp,e=.returned (.int .i64 0)/\zat w.heap.size w' w.heap.size (zfv wd dp) fp/\Below w.heap.size w w'):=HG.out _ _ e1 e2
    clear e1 e2 HG
    go_enter Tryz.func119,Tryz.ntmps119
    go_wp2_with (first|(go_at_call 162;refine H.out.mono ?_;rintro e w1 ⟨fp,rfl,ht,hb⟩))
    go_ret
    exact⟨_,fp,rfl,ht,hb⟩
   ·have e1:wd=za4 wd:=by unfold za4;split <;> omega
    have e2:dp=zby dp:=by unfold zby;(repeat' split) <;> omega
    have H:Hid (Calls Tryz.prog 162 #[.pointer (some ⟨w.heap.size,0,none⟩)] (w.alloc (.cells #[.int .i64 ((wd:Nat):Int),.int .i64 ((dp:Nat):Int),.slice none 0 0,.int .i64 0] 229)) fun e w'=>∃ fp,e=.returned (.int .i64 0)/\zat w.heap.size w' w.heap.size (zfv wd dp) fp/\Below w.heap.size w w'):=HG.out _ _ e1 e2
    clear e1 e2 HG
    go_enter Tryz.func119,Tryz.ntmps119
    go_wp2_with (first|(go_at_call 162;refine H.out.mono ?_;rintro e w1 ⟨fp,rfl,ht,hb⟩))
    go_ret
    exact⟨_,fp,rfl,ht,hb⟩
end Go.Proofs.YteampbddflhngaaGreat
