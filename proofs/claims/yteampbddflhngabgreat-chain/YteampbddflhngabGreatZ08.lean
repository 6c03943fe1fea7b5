import Derived.Test.YteampbddflhngabGreatZ07
import Derived.Deep.RegionWith
import Derived.Deep.OwnRows
import Derived.Laws.CopyOwn
import Derived.Maps.AppendAt
import Derived.Test.YteampbddflhngabGreatZ01

namespace Go.Proofs.YteampbddflhngabGreat
set_option maxRecDepth 100000
set_option maxHeartbeats 2000000
open Go.RowKit
variable {lo:Nat}
def zou(lo:Nat)(w:World)(pb:Nat)(cs:List zab)(t:List zar):Prop:=lo<=pb/\∃ v pv,Box w pb #[v,pv] 88/\CIn lo 90 w v cs/\w.ownsRow lo 138 3 pv t.length (zcc t)
theorem zou.table{w:World}{pb:Nat}{cs:List zab}{t:List zar}(h:zou lo w pb cs t):TP lo w pb t:=by
 obtain⟨_,v,pv,h1,_,h3⟩:=h;exact⟨v,pv,h1,h3⟩
theorem zou.below{w w':World}{pb:Nat}{cs:List zab}{t:List zar}(h:zou lo w pb cs t)(hb:Below w.heap.size w w'):zou lo w' pb cs t:=by
 obtain⟨h0,v,pv,h1,h2,h3⟩:=h;exact⟨h0,v,pv,h1.below hb,h2.below hb,zaa h3 hb⟩
theorem zz5(w:World)(pb:Nat)(cs:List zab)(t:List zar)(n:ByteArray)(e0:zar)(h:zou lo w pb cs t)(hl:t.length<=1000)(hn:zbb t n=some e0) :
  Calls Tryz.prog 32 #[.pointer (some ⟨pb,0,none⟩),.string n] w fun e w'=>e=.returned (.tuple #[.int .i64 e0.stratum,.int .i64 0])/\w'=w:=by
 have HN:=ztx lo w pb t n e0 h.table hl hn
 have hlt:pb < w.heap.size:=by obtain⟨_,v,pv,h1,_⟩:=h;exact h1.lt
 go_enter Tryz.func32,Tryz.ntmps32
 go_wp2_with (first|(go_at_call 56;refine HN.mono ?_;rintro e w' ⟨rfl,hww⟩;obtain rfl:=hww.symm))
 go_ret2
 exact⟨rfl,rfl⟩
def zy0(t:Value × Value × Value):List Value:=[t.1,t.2.1,t.2.2]
def flat3(ys:List (Value × Value × Value)):List Value:=ys.flatMap zy0
theorem ziq(ys:List (Value × Value × Value)):(flat3 ys).length=ys.length * 3:=by
 induction ys with
 |nil=>rfl
 |cons a l ih=>simp[flat3,zy0] at ih ⊢;omega
theorem znn:∀(ys:List (Value × Value × Value)) (k:Nat) (_:k < ys.length) (a b c:Value),(((flat3 ys).set (k * 3) a).set (k * 3+1) b).set (k * 3+2) c=flat3 (ys.set k (a,b,c))
 |[],k,hk,_,_,_=>by simp at hk
 |y::r,0,_,a,b,c=>by simp[flat3,zy0]
 |y::r,k+1,hk,a,b,c=>by
  have:=znn r k (by simpa using hk) a b c
  simp only[flat3,List.flatMap_cons,List.set_cons_succ,zy0] at this ⊢
  rw[show(k+1) * 3=k * 3+1+1+1 from by omega,show k * 3+1+1+1+1=k * 3+1+1+1+1 from rfl,show k * 3+1+1+1+2=k * 3+2+1+1+1 from by omega]
  simpa using this
theorem zmt:∀(ys:List (Value × Value × Value)) (k:Nat) (hk:k < ys.length),(flat3 ys)[k * 3]?=some ys[k].1/\(flat3 ys)[k * 3+1]?=some ys[k].2.1/\(flat3 ys)[k * 3+2]?=some ys[k].2.2
 |[],k,hk=>by simp at hk
 |y::r,0,_=>by simp[flat3,zy0]
 |y::r,k+1,hk=>by
  have:=zmt r k (by simpa using hk)
  simp only[flat3,List.flatMap_cons,zy0] at this ⊢
  rw[show(k+1) * 3=k * 3+1+1+1 from by omega,show k * 3+1+1+1+1=k * 3+1+1+1+1 from rfl,show k * 3+1+1+1+2=k * 3+2+1+1+1 from by omega]
  simpa using this
theorem z5b(z0 z1 z2:Value):∀(n i:Nat),i < n * 3->(madeCells #[z0,z1,z2] (n * 3))[i]?=(flat3 (List.replicate n (z0,z1,z2)))[i]?:=by
 intro n i hi
 obtain⟨k,j,hj,rfl⟩:∃ k j,j < 3/\i=k * 3+j:=⟨i / 3,i % 3,Nat.mod_lt _ (by decide),by omega⟩
 have hk:k < n:=by omega
 obtain⟨h0,h1,h2⟩:=zmt (List.replicate n (z0,z1,z2)) k (by simpa using hk)
 simp only[List.getElem_replicate] at h0 h1 h2
 have hm:(k * 3+j) % 3=j:=by omega
 simp only[madeCells,Array.getElem?_map,Array.getElem?_range]
 rw[if_pos hi]
 simp only[Option.map_some]
 have h3:(#[z0,z1,z2]:Array Value).size=3:=rfl
 rw[h3,hm]
 match j,hj with
 |0,_=>rw[Nat.add_zero,h0];rfl
 |1,_=>rw[h1];rfl
 |2,_=>rw[h2];rfl
theorem z2g(w:World)(n:Nat)(T:TypeId)(z0 z1 z2:Value)(hn:n<=maxLen):(w.alloc (.cells (madeCells #[z0,z1,z2] (n * 3)) T)).ownsRow w.heap.size T 3 (.slice (some ⟨w.heap.size,0,none⟩) n n) n (flat3 (List.replicate n (z0,z1,z2))):=by
 refine⟨by rw[ziq];simp,Or.inr ⟨w.heap.size,n,madeCells #[z0,z1,z2] (n * 3),rfl,Nat.le_refl _,?_,Nat.le_refl _,hn,by rw[size_madeCells],?_⟩⟩
 ·show(w.heap.push _)[w.heap.size]?=_
  simp
 ·apply List.ext_getElem?
  intro i
  by_cases hi:i < n * 3
  ·rw[List.getElem?_take,if_pos hi,Array.getElem?_toList,z5b _ _ _ n i hi]
  ·rw[List.getElem?_take,if_neg hi,List.getElem?_eq_none (by rw[ziq];simp;omega)]
theorem z5l{w:World}{base:Nat}{e:TypeId}{g n cap m:Nat}{ys:List (Value × Value × Value)}(h:w.ownsRow base e 3 (.slice (some ⟨g,0,none⟩) n cap) m (flat3 ys))(k:Nat)(hk:k < ys.length)(a b c:Value) :
  (((w.setCell ⟨g,k * 3,none⟩ a).setCell ⟨g,k * 3+1,none⟩ b).setCell ⟨g,k * 3+2,none⟩ c).ownsRow base e 3 (.slice (some ⟨g,0,none⟩) n cap) m (flat3 (ys.set k (a,b,c))):=by
 have hl:=ziq ys
 have h1:=zcb h (k * 3) (by omega) a
 have h2:=zcb h1 (k * 3+1) (by simp;omega) b
 have h3:=zcb h2 (k * 3+2) (by simp;omega) c
 rw[znn ys k hk] at h3
 exact h3
theorem zn5{w:World}{base:Nat}{e:TypeId}{g n cap m:Nat}{ys:List (Value × Value × Value)}(h:w.ownsRow base e 3 (.slice (some ⟨g,0,none⟩) n cap) m (flat3 ys))(k:Nat)(hk:k < ys.length) :
  g < w.heap.size/\w.cell? ⟨g,k * 3,none⟩=some ys[k].1/\w.cell? ⟨g,k * 3+1,none⟩=some ys[k].2.1/\w.cell? ⟨g,k * 3+2,none⟩=some ys[k].2.2:=by
 have hm:0 < m:=by have:=h.1;rw[ziq] at this;omega
 obtain⟨g',cap',hv,_,hg,hc⟩:=zas h hm
 simp at hv
 obtain⟨rfl,_⟩:=hv
 obtain⟨h0,h1,h2⟩:=zmt ys k hk
 exact⟨hg,hc _ _ h0,hc _ _ h1,hc _ _ h2⟩
theorem ztp{w:World}{base:Nat}{e:TypeId}{size g n cap m:Nat}{xs:List Value}(h:w.ownsRow base e size (.slice (some ⟨g,0,none⟩) n cap) m xs):∃ cur,w.heap[g]?=some (.cells cur e (0,0)):=by
 obtain⟨_,⟨hv,_⟩|⟨g',cap',cur,hv,_,hh,_⟩⟩:=h
 ·cases hv
 ·simp at hv;obtain⟨rfl,_⟩:=hv;exact⟨cur,hh⟩
def Copies(lo:Nat)(w:World)(ls:List zbz)(gs:List Nat):Prop:=gs.length=ls.length/\gs.Pairwise (· < ·)/\∀ k (h1:k < ls.length) (h2:k < gs.length),lo<=gs[k]/\SIn lo w (.slice (some ⟨gs[k],0,none⟩) ls[k].args.length ls[k].args.length) ls[k].args
theorem Copies.nil(w:World):Copies lo w [] []:=⟨rfl,List.Pairwise.nil,fun k h1=>by simp at h1⟩
theorem Copies.mono{w w':World}{ls:List zbz}{gs:List Nat}(h:Copies lo w ls gs)(hm:∀ v l,SIn lo w v l->SIn lo w' v l):Copies lo w' ls gs:=⟨h.1,h.2.1,fun k h1 h2=>⟨(h.2.2 k h1 h2).1,hm _ _ (h.2.2 k h1 h2).2⟩⟩
theorem Copies.lt{w:World}{ls:List zbz}{gs:List Nat}(h:Copies lo w ls gs):∀ g∈gs,g < w.heap.size:=by
 intro g hg
 obtain⟨k,hk,rfl⟩:=List.getElem_of_mem hg
 obtain⟨cur,hh⟩:=ztp (h.2.2 k (by have:=h.1;omega) hk).2
 exact(Array.getElem?_eq_some_iff.1 hh).1
theorem Copies.snoc{w:World}{ls:List zbz}{gs:List Nat}{l:zbz}{g:Nat}(h:Copies lo w ls gs)(hlt:∀ x∈gs,x < g)(hg:lo<=g)(hs:SIn lo w (.slice (some ⟨g,0,none⟩) l.args.length l.args.length) l.args):Copies lo w (ls++[l]) (gs++[g]):=by
 obtain⟨h1,h2,h3⟩:=h
 refine⟨by simp[h1],?_,?_⟩
 ·rw[List.pairwise_append]
  exact⟨h2,List.pairwise_singleton _ _,fun a ha b hb=>by simp at hb;subst hb;exact hlt a ha⟩
 ·intro k hk1 hk2
  simp at hk1
  by_cases hk:k < ls.length
  ·have:=h3 k hk (by omega)
   simpa [List.getElem_append,hk,h1] using this
  ·obtain rfl:k=ls.length:=by omega
   have e1:(ls++[l])[ls.length]=l:=by simp
   have e2:(gs++[g])[ls.length]=g:=by simp[← h1]
   rw[e1,e2]
   exact⟨hg,hs⟩
structure zaq (M:List Nat) (w w':World):Prop where
 os:w'.os=w.os
 tape:w'.tape=w.tape
 output:w'.output=w.output
 size:w.heap.size<=w'.heap.size
 block:∀ k,k < w.heap.size->k∉M->w'.heap[k]?=w.heap[k]?
theorem zaq.refl(M:List Nat)(w:World):zaq M w w:=⟨rfl,rfl,rfl,Nat.le_refl _,fun _ _ _=>rfl⟩
theorem zaq.of{M:List Nat}{w w':World}(h:Below w.heap.size w w'):zaq M w w':=⟨h.os,h.tape,h.output,h.size,fun k hk _=>h.block k hk⟩
theorem zaq.trans{M:List Nat}{a b c:World}(h:zaq M a b)(k:zaq M b c):zaq M a c :=
 ⟨k.os.trans h.os,k.tape.trans h.tape,k.output.trans h.output,Nat.le_trans h.size k.size,fun x hx hn=>(k.block x (Nat.lt_of_lt_of_le hx h.size) hn).trans (h.block x hx hn)⟩
theorem zaq.more{M N:List Nat}{w w':World}(h:zaq M w w')(hs:∀ x∈M,x∈N):zaq N w w':=⟨h.os,h.tape,h.output,h.size,fun k hk hn=>h.block k hk fun hm=>hn (hs k hm)⟩
theorem zaq.newer{M N:List Nat}{a b c:World}(h:zaq M a b)(k:zaq N b c)(hn:∀ x∈N,x∈M∨a.heap.size<=x):zaq M a c :=
 ⟨k.os.trans h.os,k.tape.trans h.tape,k.output.trans h.output,Nat.le_trans h.size k.size,fun x hx hm=>(k.block x (Nat.lt_of_lt_of_le hx h.size) fun hxn=>(hn x hxn).elim hm fun h2=>by omega).trans (h.block x hx hm)⟩
theorem zaq.below{M:List Nat}{B:Nat}{w w':World}(h:zaq M w w')(hM:∀ x∈M,B<=x)(hB:B<=w.heap.size):Below B w w' :=
 ⟨h.os,h.tape,h.output,h.size,fun k hk=>h.block k (by omega) fun hm=>by have:=hM k hm;omega⟩
theorem zbi{M:List Nat}{w w':World}{base:Nat}{e:TypeId}{size:Nat}{v:Value}{n:Nat}{xs:List Value}(h:w.ownsRow base e size v n xs)(hs:zaq M w w')(hn:∀ b,v.ownBlock=some b->b∉M):w'.ownsRow base e size v n xs:=by
 obtain⟨h1,h2⟩:=h
 refine⟨h1,?_⟩
 rcases h2 with h2|⟨g,cap,cur,hv,hg,hh,rr⟩
 ·exact Or.inl h2
 ·refine Or.inr ⟨g,cap,cur,hv,hg,?_,rr⟩
  rw[hs.block g (Array.getElem?_eq_some_iff.1 hh).1 (hn g (by rw[hv];rfl))];exact hh
theorem Box.save{M:List Nat}{w w':World}{b:Nat}{c:Array Value}{T:TypeId}(h:Box w b c T)(hs:zaq M w w')(hn:b∉M):Box w' b c T:=by
 have:=h.lt;unfold Box at *;rw[hs.block b this hn];exact h
section
variable {P:Program} {ops:Array Oper} {rest:List Oper} {o:Oper} {a:Act} {Q:Exit->Act->World->Prop}
theorem zcf(wO w0:World)(l:List Value)(te:TypeId)(hg:o.guard=none)(s x:Operand)(t:TypeId)
  (ho:o.op=.call { callee:=.builtin .append,args:=#[s,x],argTypes:=#[t,t] })
  (base:Nat) (e:TypeId) (i:TypeInfo) (z:Value) (size bytes:Nat) (ht:P.underlying t=some (.slice e)) (hi:P.info? e=some i) (hz:i.zero=some z)
  (hsize:i.size=size) (hby:i.bytes=bytes) (hzs:z.cells.size=size) (hsz:0 < size)
  (v:Value) (n:Nat) (xs:List Value) (hs:a.eval s=v) (hown:wO.ownsRow base e size v n xs) (hbO:Below wO.heap.size wO w0)
  (b c:Nat) (hx:a.eval x=.slice (some ⟨b,0,none⟩) 1 c) (hb:b=w0.heap.size) (hl:l.length=size) (h1:∀ u∈l,u.oneCell'=true)
  (hn:n<=10000000000) (hbytes:bytes<=1000) (hbase:base<=wO.heap.size)
  (h:∀ v' w',w'.ownsRow base e size v' (n+1) (xs++l)->zaq v.ownBlock.toList wO w'->(v'.ownBlock=v.ownBlock∨∃ g,v'.ownBlock=some g/\wO.heap.size<=g)->wpList P ops Q rest (a.put o.dst v') w') :
  wpList P ops Q (o::rest) a (w0.alloc (.cells l.toArray te)):=by
 have hown':=zaa hown hbO
 have hsz0:=hbO.size
 subst hb
 refine wpList_append_own_at _ hg s x t ho base e i z size bytes ht hi hz hsize hby hzs hsz v n xs hs (hown'.alloc _) ⟨w0.heap.size,0,none⟩ 1 c l hx (by omega) ?_ h1 ?_ ?_ ?_ ?_
 ·intro j u hj
  rw[Addr.add_lit,Nat.zero_add,World.cell?_alloc_mark]
  simpa using hj
 ·unfold maxLen;omega
 ·have:(n+1) * bytes<=10000000001 * 1000:=Nat.mul_le_mul (by omega) hbytes
  omega
 ·simp;omega
 ·intro v' w' h2 hgr _ hat
  refine h v' w' h2 ⟨hgr.os.trans hbO.os,hgr.tape.trans hbO.tape,hgr.output.trans hbO.output,?_,fun k hk hm=>?_⟩ ?_
  ·have:=hgr.size;simp at this;omega
  ·rw[hgr.block k (by simp;omega) (fun e=>hm (by rw[← e];simp))]
   rw[show(w0.alloc (.cells l.toArray te)).heap[k]?=w0.heap[k]? from Below.heap_alloc _ _ _ (by omega)]
   exact hbO.block k hk
  ·rcases hat with h3|h3
   ·exact Or.inl h3
   ·exact Or.inr ⟨_,h3,by simp;omega⟩
end
theorem zdo{w:World}{base:Nat}{e:TypeId}{size:Nat}{v:Value}{n:Nat}{xs:List Value}(h:w.ownsRow base e size v n xs){b:Nat}(hb:v.ownBlock=some b):b < w.heap.size:=by
 obtain⟨_,⟨hv,_⟩|⟨g,cap,cur,hv,_,hh,_⟩⟩:=h
 ·subst hv;cases hb
 ·subst hv;simp only[Value.ownBlock,Option.some.injEq] at hb;subst hb;exact(Array.getElem?_eq_some_iff.1 hh).1
theorem zaq.set(w:World)(b o:Nat)(u:Value):zaq [b] w (w.setCell ⟨b,o,none⟩ u) :=
 ⟨rfl,rfl,rfl,by simp[World.setCell],fun k _ hn=>Below.heap_setCell _ _ _ _ (by simp at hn;exact hn)⟩
theorem zc5{v:Value}{b:Nat}(h:b∈v.ownBlock.toList):v.ownBlock=some b:=by simpa using h
theorem zdr{w:World}{base:Nat}{e T:TypeId}{size:Nat}{v:Value}{n:Nat}{xs:List Value}(h:w.ownsRow base e size v n xs){b:Nat}{c:Array Value}(hb:Box w b c T)(hT:e≠T):b∉v.ownBlock.toList:=by
 intro hm
 have:=zfs h hb hT
 exact this (by simpa [eq_comm] using hm)
def sl(g n:Nat):Value:=.slice (some ⟨g,0,none⟩) n n
theorem zi6{w:World}{b1 b2:Nat}{e1 e2:TypeId}{s1 s2:Nat}{v1 v2:Value}{n1 n2:Nat}{xs1 xs2:List Value}(h1:w.ownsRow b1 e1 s1 v1 n1 xs1)(h2:w.ownsRow b2 e2 s2 v2 n2 xs2)(hT:e1≠e2){b:Nat}(hb:v1.ownBlock=some b):v2.ownBlock≠some b:=by
 intro hb2
 obtain⟨_,⟨hv,_⟩|⟨g,cap,cur,hv,_,hh,_⟩⟩:=h1
 ·subst hv;cases hb
 ·obtain⟨_,⟨hv2,_⟩|⟨g2,cap2,cur2,hv2,_,hh2,_⟩⟩:=h2
  ·subst hv2;cases hb2
  ·subst hv;subst hv2
   simp only[Value.ownBlock,Option.some.injEq] at hb hb2
   subst hb;subst hb2
   rw[hh] at hh2
   simp at hh2
   exact hT hh2.2
theorem zbp{w:World}{b1:Nat}{e T:TypeId}{s1:Nat}{v1:Value}{n1:Nat}{xs1:List Value}(h1:w.ownsRow b1 e s1 v1 n1 xs1){wb:Nat}{c:Array Value}(h2:Box w wb c T)(hT:e≠T){b:Nat}(hb:v1.ownBlock=some b):b≠wb:=by
 rintro rfl
 exact zfs h1 h2 hT hb.symm
theorem zem{w:World}{base:Nat}{e:TypeId}{size:Nat}{v:Value}{n:Nat}{xs:List Value}(h:w.ownsRow base e size v n xs){b:Nat}(hb:v.ownBlock=some b):base<=b:=by
 obtain⟨_,⟨hv,_⟩|⟨g,cap,cur,hv,hg,_,_⟩⟩:=h
 ·subst hv;cases hb
 ·subst hv;simp only[Value.ownBlock,Option.some.injEq] at hb;omega
theorem z5g{α:Type}{f:α->Nat}{l:List α}(h:(l.map f).Nodup){i j:Nat}(hi:i < l.length)(hj:j < l.length)(hne:i≠j):f l[i]≠f l[j]:=by
 intro e
 have:=(List.getElem_inj (h₀:=by simpa using hi) (h₁:=by simpa using hj) h).1 (by simpa using e)
 exact hne this
theorem Tryz.infoInt:(Tryz.prog.info? 3).map (fun i=>(i.zero,i.size,i.bytes))=some (some (.int .i64 0),1,8):=by kernel_rfl
def ivN(s:Nat):Value:=.int .i64 (s:Int)
theorem z5k(w:World)(n:Nat)(T:TypeId)(hn:n<=maxLen):(w.alloc (.cells (madeCells #[.int .i64 0] n) T)).ownsRow w.heap.size T 1 (.slice (some ⟨w.heap.size,0,none⟩) n n) n ((List.replicate n 0).map ivN):=by
 refine⟨by simp,Or.inr ⟨w.heap.size,n,madeCells #[.int .i64 0] n,rfl,Nat.le_refl _,?_,Nat.le_refl _,hn,by rw[size_madeCells];omega,?_⟩⟩
 ·show(w.heap.push _)[w.heap.size]?=_
  simp
 ·apply List.ext_getElem?
  intro i
  by_cases hi:i < n
  ·simp[hi,madeCells,ivN,Nat.mod_one]
  ·simp[List.getElem?_take,hi]
end Go.Proofs.YteampbddflhngabGreat
namespace Go.Proofs.YteampbddflhngabGreat
structure zhb where
 leap:List Nat
 down:List Nat
 deriving DecidableEq
structure zad where
 width:Nat
 depth:Nat
 nodes:List zhb
 count:Nat
 deriving DecidableEq
abbrev zao:=List Nat
def zhb.zero:zhb:=⟨[],[]⟩
def zb7(T:zad):zad:={ T with nodes:=T.nodes++[⟨List.replicate T.width T.width,List.replicate T.width 0⟩] }
def za2(width:Nat):Nat:=if width < 1 then 1 else width
def zbu(depth:Nat):Nat:=if (if depth < 1 then 1 else depth) > 3 then 3 else(if depth < 1 then 1 else depth)
def zfq(width depth:Nat):zad:=zb7 ⟨za2 width,zbu depth,[],0⟩
def zcm(T:zad)(at' «from» : Nat):Option Nat :=
 if at' < T.nodes.length/\«from» < T.width then
  let v:=(T.nodes.getD at' zhb.zero).leap.getD «from» 0
  if v ≥ T.width then none else some v
 else none
def zax(T:zad)(at' v:Nat):Option Nat :=
 match zcm T at' v with
 |none=>none
 |some u=>if u=v then some ((T.nodes.getD at' zhb.zero).down.getD v 0) else none
def zgc(v:Nat):Nat->List Nat->List Nat
 |0,l=>l
 |n+1,l=>if l.getD n 0 > v then zgc v n (l.set n v) else l
def z3s(n:zhb)(v d:Nat):zhb:=⟨zgc v (v+1) n.leap,n.down.set v d⟩
def ze3(T:zad)(at' v d:Nat):zad :=
 if at' < T.nodes.length/\v < T.width then{ T with nodes:=T.nodes.set at' (z3s (T.nodes.getD at' zhb.zero) v d) } else T
def zco(T:zad)(at' v:Nat):zad × Nat :=
 match zax T at' v with
 |some b=>(T,b)
 |none=>(ze3 (zb7 T) at' v T.nodes.length,T.nodes.length)
def zpi(T:zad)(at' v mark:Nat):zad × Bool :=
 match zax T at' v with
 |some _=>(T,false)
 |none=>({ ze3 T at' v mark with count:=(ze3 T at' v mark).count+1 },true)
def znm(T:zad)(row:zao):Bool:=row.all (fun v=>v < T.width)
def zc4(mark:Nat):zad->Nat->Nat->zao->zad × Bool
 |T,_,_,[]=>(T,false)
 |T,at',level,v::r =>
  if level+1 ≥ T.depth then zpi T at' v mark else zc4 mark (zco T at' v).1 (zco T at' v).2 (level+1) r
def zfj(T:zad)(row:zao)(mark:Nat):zad × Bool:=if znm T row then zc4 mark T 0 0 row else(T,false)
def zbc(T:zad):Nat->Nat->zao->Option Nat
 |_,_,[]=>none
 |at',level,v::r =>
  match zax T at' v with
  |none=>none
  |some b=>if level+1 ≥ T.depth then some b else zbc T b (level+1) r
def zdq(T:zad)(row:zao):Option Nat:=zbc T 0 0 row
def zdg(T:zad):Nat->Nat->Nat->Nat->zao->List zao->Option (zao × List zao)
 |0,_,_,_,_,_=>none
 |n+1,at',level,«from»,row,rows =>
  match zcm T at' «from» with
  |none=>some (row,rows)
  |some v =>
   let row:=row.set level v
   if level+1 ≥ T.depth then zdg T n at' level (v+1) row (rows++[row])
   else if level+1 ≥ 3 then zdg T n at' level (v+1) row rows
   else match zdg T n ((zax T at' v).getD 0) (level+1) 0 row rows with
    |none=>none
    |some (row,rows)=>zdg T n at' level (v+1) row rows
def zrf(fuel:Nat)(T:zad):Option (List zao):=(zdg T fuel 0 0 0 [0,0,0] []).map (·.2)
structure zbl where
 var:Bool
 num:Nat
 level:Nat
 deriving DecidableEq
structure zaj where
 pred:Nat
 terms:List zbl
 deriving DecidableEq
structure zah where
 stratum:Nat
 vars:Nat
 head:zaj
 plain:List zaj
 nots:List zaj
 deriving DecidableEq
def zdd(l:zaj)(place:Nat):Bool:=l.terms.any fun t=>t.var && t.num == place
def zbo(l:zaj)(place:Nat):Option Nat:=if zdd l place then some ((List.range place).countP (zdd l)) else none
def za9(l:zaj):Nat:=(List.range 5).countP (zdd l)
def zdm(l:zaj):Nat:=l.terms.foldl (fun k t=>if t.var && decide (t.num ≥ k) then t.num+1 else k) 0
def zic(l:zaj)(known:Int):Int:=l.terms.foldl (fun k t=>if t.var && decide ((t.num:Int) < known) && decide ((t.num:Int) > k) then(t.num:Int) else k) (-1)
def zht(l:zaj)(known:Int):Int:=if (zdm l:Int)<=known then -1 else zic l known
def zba(known:Int)(b:Int)(l:zaj):Int:=if zht l known > b then zht l known else b
def zd4(r:zah)(known:Int):Int:=r.nots.foldl (zba known) (r.plain.foldl (zba known) (zic r.head known))
def atT(t:zbl)(vals:List Nat):Nat:=if t.var && decide (t.num < 5) then vals.getD t.num 0 else t.num
def rowCell(l:zaj)(vals:List Nat)(i:Nat):Nat:=if i < l.terms.length then atT (l.terms.getD i ⟨false,0,0⟩) vals else 0
def zcr(l:zaj)(vals:List Nat):zao:=[rowCell l vals 0,rowCell l vals 1,rowCell l vals 2]
def leveled(t:zbl):Bool:=t.var && decide (t.level < 3)
def zbv(l:zaj)(row:zao)(f:zao)(i:Nat):zao :=
 if i < l.terms.length/\leveled (l.terms.getD i ⟨false,0,0⟩)=true then f.set (l.terms.getD i ⟨false,0,0⟩).level (row.getD i 0) else f
def zc8(l:zaj)(row:zao):zao:=zbv l row (zbv l row (zbv l row [0,0,0] 0) 1) 2
def zd7(t:zbl)(v:Nat)(f:zao):Bool:=if leveled t then f.getD t.level 0 == v else t.num == v
def zaz(l:zaj)(row f:zao)(i:Nat):Bool:=decide (l.terms.length<=i) || zd7 (l.terms.getD i ⟨false,0,0⟩) (row.getD i 0) f
def zbw(l:zaj)(row:zao):Option zao :=
 if zaz l row (zc8 l row) 0 && zaz l row (zc8 l row) 1 && zaz l row (zc8 l row) 2 then some (zc8 l row) else none
structure zee where
 rows:zad
 nodes:List Nat
 deriving DecidableEq
structure z8h where
 lit:zaj
 known:Nat
 rows:zad
 deriving DecidableEq
structure zau where
 head:zaj
 vars:Nat
 sides:List zee
 bars:List z8h
 holds:List (List (Nat × Nat))
 backs:List Int
 last:Int
 values:List Nat
 «from» : List Nat
 depth:Int
 /-- as the code counts them: an int of Go's -/
 moves:Int
 deriving DecidableEq
def zee.zero:zee:=⟨⟨0,0,[],0⟩,[]⟩
def zb0(r:zah)(place:Nat):List (Nat × Nat) :=
 r.plain.zipIdx.filterMap fun x=>(zbo x.1 place).map fun lv=>(x.2,lv)
def zb1(J:zau)(known:Nat):Bool:=J.bars.any fun b=>b.known == known && (zdq b.rows (zcr b.lit J.values)).isSome
def za0(r:zah)(plain nots:List zad):zau :=
 let J:zau:={ head:=r.head,vars:=r.vars,sides:=plain.map (fun T=>⟨T,[0,0,0]⟩),bars:=(r.nots.zip nots).map (fun x=>⟨x.1,zdm x.1,x.2⟩),holds:=(List.range 5).map (zb0 r),backs:=(List.range 5).map (fun p=>zd4 r (p:Nat)),last:=zd4 r r.vars,values:=[0,0,0,0,0],«from»:=[0,0,0,0,0],depth:=if plain.any (fun T=>T.count == 0) then -1 else 0,moves:=0 }
 if zb1 J 0 then{ J with depth:=-1 } else J
def zcp(J:zau)(h:Nat × Nat):Bool:=decide (h.1 < J.sides.length) && decide (h.2 < 3)
def zhc(J:zau)(h:Nat × Nat)(«from» : Nat):zau × Option Nat :=
 if zcp J h then({ J with moves:=IntKind.i64.wrap (J.moves+1) },zcm (J.sides.getD h.1 zee.zero).rows ((J.sides.getD h.1 zee.zero).nodes.getD h.2 0) «from») else(J,none)
def zh7:Nat->zau->List (Nat × Nat)->Nat->Nat->Nat->Option (zau × Option Nat)
 |0,_,_,_,_,_=>none
 |n+1,J,hs,at',same,turn =>
  if same < hs.length then
   match zhc J (hs.getD turn (0,0)) at' with
   |(J,none)=>some (J,none)
   |(J,some v)=>zh7 n J hs (if v > at' then v else at') ((if v > at' then 0 else same)+1) (if turn+1 ≥ hs.length then 0 else turn+1)
  else some (J,some at')
def zl6(fuel:Nat)(J:zau)(place «from» : Nat):Option (zau × Option Nat) :=
 if place ≥ 5∨(J.holds.getD place []).length=0 then some (J,none) else zh7 fuel J (J.holds.getD place []) «from» 0 0
def zef(v:Nat)(J:zau)(h:Nat × Nat):zau :=
 if zcp J h=false∨h.2+1 ≥ 3 then J
 else{ J with sides:=J.sides.set h.1 { (J.sides.getD h.1 zee.zero) with nodes:=(J.sides.getD h.1 zee.zero).nodes.set (h.2+1) ((zax (J.sides.getD h.1 zee.zero).rows ((J.sides.getD h.1 zee.zero).nodes.getD h.2 0) v).getD 0) } }
def zfu(J:zau)(place v:Nat):zau :=
 if place ≥ 5 then J
 else(J.holds.getD place []).foldl (zef v) { J with values:=J.values.set place v,«from»:=(if place+1 < 5 then(J.from.set place (v+1)).set (place+1) 0 else J.from.set place (v+1)) }
def ze6:Nat->zau->Int->Option (zau × Bool)
 |0,_,_=>none
 |n+1,J,depth =>
  if 0<=depth/\depth < J.vars/\depth < 5 then
   match zl6 n J depth.toNat (J.from.getD depth.toNat 0) with
   |none=>none
   |some (J,none)=>ze6 n J (J.backs.getD depth.toNat 0)
   |some (J,some v)=>ze6 n (zfu J depth.toNat v) (if zb1 (zfu J depth.toNat v) (depth.toNat+1) then depth else depth+1)
  else some (J,decide (depth ≥ J.vars))
def ztm(fuel:Nat)(J:zau):Option (zau × Bool) :=
 match ze6 fuel J J.depth with
 |none=>none
 |some (J,found)=>some ({ J with depth:=if found then J.last else -1 },found)
end Go.Proofs.YteampbddflhngabGreat
namespace Go.Proofs.YteampbddflhngabGreat
set_option maxRecDepth 100000
set_option maxHeartbeats 2000000
open Go.RowKit
variable {lo:Nat}
def zex(wd:Nat)(ns:List (Nat × Nat)):List Value:=ns.flatMap fun x=>[sl x.1 wd,sl x.2 wd]
theorem zis(wd:Nat):∀(ns:List (Nat × Nat)) (k:Nat) (hk:k < ns.length),(zex wd ns)[k * 2]?=some (sl ns[k].1 wd)/\(zex wd ns)[k * 2+1]?=some (sl ns[k].2 wd)
 |[],k,hk=>by simp at hk
 |p::r,0,_=>by simp[zex]
 |p::r,k+1,hk=>by
  have:=zis wd r k (by simpa using hk)
  simp only[zex,List.flatMap_cons] at this ⊢
  rw[show(k+1) * 2=k * 2+1+1 from by omega,show k * 2+1+1+1=k * 2+1+1+1 from rfl]
  simpa using this
def intsOf(ns:List (Nat × Nat)):List Nat:=ns.flatMap fun x=>[x.1,x.2]
structure zdj (lo:Nat) (w:World) (tb:Nat) (T:zad) (nv:Value) (ns:List (Nat × Nat)):Prop where
 low:lo<=tb
 box:Box w tb #[.int .i64 (T.width:Nat),.int .i64 (T.depth:Nat),nv,.int .i64 (T.count:Nat)] 168
 nodes:w.ownsRow lo 200 2 nv T.nodes.length (zex T.width ns)
 len:ns.length=T.nodes.length
 leap:∀ i (h:i < T.nodes.length) (h2:i < ns.length),w.ownsRow lo 3 1 (sl ns[i].1 T.width) T.width (T.nodes[i].leap.map ivN)
 down:∀ i (h:i < T.nodes.length) (h2:i < ns.length),w.ownsRow lo 3 1 (sl ns[i].2 T.width) T.width (T.nodes[i].down.map ivN)
 apart:(intsOf ns).Nodup
 wide:T.width<=1000
 many:T.nodes.length<=100000000
 deep:T.depth<=3
 few:T.count<=1000000000
def fpT(tb:Nat)(nv:Value)(ns:List (Nat × Nat)):List Nat:=tb::(nv.ownBlock.toList++intsOf ns)
def zat(lo:Nat)(w:World)(tb:Nat)(T:zad)(fp:List Nat):Prop:=∃ nv ns,zdj lo w tb T nv ns/\fp=fpT tb nv ns
theorem zdj.leapLen{w:World}{tb:Nat}{T:zad}{nv:Value}{ns:List (Nat × Nat)}(h:zdj lo w tb T nv ns)(i:Nat)(hi:i < T.nodes.length):T.nodes[i].leap.length=T.width:=by
 have:=(h.leap i hi (by rw[h.len];exact hi)).1;simpa using this
theorem zdj.downLen{w:World}{tb:Nat}{T:zad}{nv:Value}{ns:List (Nat × Nat)}(h:zdj lo w tb T nv ns)(i:Nat)(hi:i < T.nodes.length):T.nodes[i].down.length=T.width:=by
 have:=(h.down i hi (by rw[h.len];exact hi)).1;simpa using this
theorem zq7{ns:List (Nat × Nat)}{b:Nat}(h:b∈intsOf ns):∃ i,∃ h:i < ns.length,b=ns[i].1∨b=ns[i].2:=by
 simp only[intsOf,List.mem_flatMap,List.mem_cons,List.not_mem_nil,or_false] at h
 obtain⟨x,hx,hb⟩:=h
 obtain⟨i,hi,rfl⟩:=List.getElem_of_mem hx
 exact⟨i,hi,hb⟩
theorem zmu{ns:List (Nat × Nat)}{i:Nat}(h:i < ns.length):ns[i].1∈intsOf ns/\ns[i].2∈intsOf ns:=by
 simp only[intsOf,List.mem_flatMap,List.mem_cons,List.not_mem_nil,or_false]
 exact⟨⟨_,List.getElem_mem h,Or.inl rfl⟩,⟨_,List.getElem_mem h,Or.inr rfl⟩⟩
theorem zdj.lt{w:World}{tb:Nat}{T:zad}{nv:Value}{ns:List (Nat × Nat)}(h:zdj lo w tb T nv ns):∀ b∈fpT tb nv ns,lo<=b/\b < w.heap.size:=by
 intro b hb
 simp only[fpT,List.mem_cons,List.mem_append] at hb
 rcases hb with rfl|hb|hb
 ·exact⟨h.low,h.box.lt⟩
 ·exact⟨zem h.nodes (zc5 hb),zdo h.nodes (zc5 hb)⟩
 ·obtain⟨i,hi,rfl|rfl⟩:=zq7 hb
  ·exact⟨zem (h.leap i (by rw[← h.len];exact hi) hi) rfl,zdo (h.leap i (by rw[← h.len];exact hi) hi) rfl⟩
  ·exact⟨zem (h.down i (by rw[← h.len];exact hi) hi) rfl,zdo (h.down i (by rw[← h.len];exact hi) hi) rfl⟩
theorem zat.lt{w:World}{tb:Nat}{T:zad}{fp:List Nat}(h:zat lo w tb T fp):∀ b∈fp,lo<=b/\b < w.heap.size:=by
 obtain⟨nv,ns,h1,rfl⟩:=h;exact h1.lt
theorem zat.save{w w':World}{tb:Nat}{T:zad}{fp N:List Nat}(h:zat lo w tb T fp)(hs:zaq N w w')(hN:∀ b∈fp,b∉N):zat lo w' tb T fp:=by
 obtain⟨nv,ns,h1,rfl⟩:=h
 have hm:∀ b∈fpT tb nv ns,b∉N:=hN
 refine⟨nv,ns,⟨h1.low,h1.box.save hs (hm tb (by simp[fpT])),zbi h1.nodes hs fun b hb=>hm b ?_,h1.len,fun i hi hi2=>zbi (h1.leap i hi hi2) hs fun b hb=>hm b ?_,fun i hi hi2=>zbi (h1.down i hi hi2) hs fun b hb=>hm b ?_,h1.apart,h1.wide,h1.many,h1.deep,h1.few⟩,rfl⟩
 ·simp[fpT,hb]
 ·simp only[sl,Value.ownBlock,Option.some.injEq] at hb;subst hb;simp only[fpT,List.mem_cons,List.mem_append];exact Or.inr (Or.inr (zmu hi2).1)
 ·simp only[sl,Value.ownBlock,Option.some.injEq] at hb;subst hb;simp only[fpT,List.mem_cons,List.mem_append];exact Or.inr (Or.inr (zmu hi2).2)
theorem zat.below{w w':World}{tb:Nat}{T:zad}{fp:List Nat}(h:zat lo w tb T fp)(hb:Below w.heap.size w w'):zat lo w' tb T fp:=h.save (zaq.of (M:=[]) hb) (by simp)
def zor(o:Option Nat):Value:=.tuple #[.int .i64 ((o.getD 0:Nat):Int),.bool o.isSome]
theorem zdj.leapAt{w:World}{tb:Nat}{T:zad}{nv:Value}{ns:List (Nat × Nat)}(h:zdj lo w tb T nv ns)(a f:Nat)(ha:a < T.nodes.length)(hf:f < T.width) :
  ∃ gn cap gl,nv=.slice (some ⟨gn,0,none⟩) T.nodes.length cap/\gn < w.heap.size/\gl < w.heap.size/\(∃ h2:a < ns.length,gl=ns[a].1)/\w.cell? ⟨gn,a * 2,none⟩=some (.slice (some ⟨gl,0,none⟩) T.width T.width)/\w.cell? ⟨gl,f,none⟩=some (.int .i64 ((T.nodes[a].leap.getD f 0:Nat):Int)):=by
 have hi2:a < ns.length:=by rw[h.len];exact ha
 obtain⟨gn,cap',hv,_,hgn,hcn⟩:=zas h.nodes (by omega)
 obtain⟨gl,cap'',hv2,_,hgl,hcl⟩:=zas (h.leap a ha hi2) (by omega)
 simp only[sl,Value.slice.injEq,Option.some.injEq,Addr.mk.injEq] at hv2
 obtain⟨⟨rfl,_⟩,_,_⟩:=hv2
 have hll:=h.leapLen a ha
 refine⟨gn,cap',_,hv,hgn,hgl,⟨hi2,rfl⟩,hcn _ _ (zis T.width ns a hi2).1,hcl f _ ?_⟩
 rw[List.getElem?_map,List.getElem?_eq_getElem (by omega),List.getD_eq_getElem?_getD,List.getElem?_eq_getElem (by omega)]
 rfl
theorem zdj.downAt{w:World}{tb:Nat}{T:zad}{nv:Value}{ns:List (Nat × Nat)}(h:zdj lo w tb T nv ns)(a f:Nat)(ha:a < T.nodes.length)(hf:f < T.width) :
  ∃ gn cap gl,nv=.slice (some ⟨gn,0,none⟩) T.nodes.length cap/\gn < w.heap.size/\gl < w.heap.size/\(∃ h2:a < ns.length,gl=ns[a].2)/\w.cell? ⟨gn,a * 2+1,none⟩=some (.slice (some ⟨gl,0,none⟩) T.width T.width)/\w.cell? ⟨gl,f,none⟩=some (.int .i64 ((T.nodes[a].down.getD f 0:Nat):Int)):=by
 have hi2:a < ns.length:=by rw[h.len];exact ha
 obtain⟨gn,cap',hv,_,hgn,hcn⟩:=zas h.nodes (by omega)
 obtain⟨gl,cap'',hv2,_,hgl,hcl⟩:=zas (h.down a ha hi2) (by omega)
 simp only[sl,Value.slice.injEq,Option.some.injEq,Addr.mk.injEq] at hv2
 obtain⟨⟨rfl,_⟩,_,_⟩:=hv2
 have hll:=h.downLen a ha
 refine⟨gn,cap',_,hv,hgn,hgl,⟨hi2,rfl⟩,hcn _ _ (zis T.width ns a hi2).2,hcl f _ ?_⟩
 rw[List.getElem?_map,List.getElem?_eq_getElem (by omega),List.getD_eq_getElem?_getD,List.getElem?_eq_getElem (by omega)]
 rfl
theorem zk1(w:World)(tb:Nat)(T:zad)(fp:List Nat)(a f:Nat)(h:zat lo w tb T fp) :
  Calls Tryz.prog 107 #[.pointer (some ⟨tb,0,none⟩),.int .i64 a,.int .i64 f] w fun e w'=>e=.returned (zor (zcm T a f))/\w'=w:=by
 obtain⟨nv,ns,h1,rfl⟩:=h
 obtain⟨hc,hfz⟩:=h1.box.rules
 have hlt:=h1.box.lt
 have hwd:=h1.wide
 have hmn:=h1.many
 by_cases h2:a < T.nodes.length
 ·by_cases h3:f < T.width
  ·obtain⟨gn,cap,gl,rfl,hgn,hgl,_,hn1,hv1⟩:=h1.leapAt a f h2 h3
   have hE:zcm T a f=if T.nodes[a].leap.getD f 0 ≥ T.width then none else some (T.nodes[a].leap.getD f 0):=by
    unfold zcm
    rw[if_pos ⟨h2,h3⟩]
    simp[List.getD_eq_getElem?_getD,h2]
   generalize T.nodes[a].leap.getD f 0=v at *
   clear h1
   by_cases h4:v ≥ T.width
   ·rw[if_pos h4] at hE
    have HE:Hid (zcm T a f=none):=hE
    clear hE
    go_enter Tryz.func107,Tryz.ntmps107
    go_wp2
    go_ret2
    exact⟨by rw[HE.out];rfl,rfl⟩
   ·rw[if_neg h4] at hE
    have HE:Hid (zcm T a f=some v):=hE
    clear hE
    go_enter Tryz.func107,Tryz.ntmps107
    go_wp2
    go_ret2
    exact⟨by rw[HE.out];rfl,rfl⟩
  ·have HE:Hid (zcm T a f=none):=by unfold zcm;rw[Hid,if_neg (by omega)]
   obtain⟨ao,cap,rfl⟩:=zac h1.nodes
   clear h1
   go_enter Tryz.func107,Tryz.ntmps107
   go_wp2
   go_ret2
   exact⟨by rw[HE.out];rfl,rfl⟩
 ·have HE:Hid (zcm T a f=none):=by unfold zcm;rw[Hid,if_neg (by omega)]
  obtain⟨ao,cap,rfl⟩:=zac h1.nodes
  clear h1
  go_enter Tryz.func107,Tryz.ntmps107
  go_wp2
  go_ret2
  exact⟨by rw[HE.out];rfl,rfl⟩
theorem zhw(w:World)(tb:Nat)(T:zad)(fp:List Nat)(a f:Nat)(h:zat lo w tb T fp) :
  Calls Tryz.prog 82 #[.pointer (some ⟨tb,0,none⟩),.int .i64 a,.int .i64 f] w fun e w'=>e=.returned (zor (zax T a f))/\w'=w:=by
 have HL:Hid (Calls Tryz.prog 107 #[.pointer (some ⟨tb,0,none⟩),.int .i64 a,.int .i64 f] w fun e w'=>e=.returned (zor (zcm T a f))/\w'=w):=zk1 w tb T fp a f h
 obtain⟨nv,ns,h1,rfl⟩:=h
 obtain⟨hc,hfz⟩:=h1.box.rules
 have hlt:=h1.box.lt
 have hwd:=h1.wide
 have hmn:=h1.many
 cases hl:zcm T a f with
 |none =>
  have HE:Hid (zax T a f=none):=by unfold zax;rw[Hid,hl]
  rw[hl] at HL
  simp only[zor,Option.getD_none,Option.isSome_none] at HL
  clear hl h1
  go_enter Tryz.func82,Tryz.ntmps82
  go_wp2_with (first|(go_at_call 107;refine HL.out.mono ?_;rintro e w' ⟨rfl,hww⟩;obtain rfl:=hww.symm))
  go_ret2
  exact⟨by rw[HE.out];rfl,rfl⟩
 |some u =>
  have hin:a < T.nodes.length/\f < T.width:=by
   unfold zcm at hl
   split at hl
   ·assumption
   ·cases hl
  obtain⟨gn,cap,gl,rfl,hgn,hgl,_,hn1,hv1⟩:=h1.downAt a f hin.1 hin.2
  have hE:zax T a f=if u=f then some (T.nodes[a].down.getD f 0) else none:=by
   unfold zax;rw[hl];simp[List.getD_eq_getElem?_getD,hin.1]
  rw[hl] at HL
  simp only[zor,Option.getD_some,Option.isSome_some] at HL
  obtain⟨h2,h3⟩:=hin
  generalize T.nodes[a].down.getD f 0=v at *
  clear hl h1
  by_cases h4:u=f
  ·subst h4
   rw[if_pos rfl] at hE
   have HE:Hid (zax T a u=some v):=hE
   clear hE
   go_enter Tryz.func82,Tryz.ntmps82
   go_wp2_with (first|(go_at_call 107;refine HL.out.mono ?_;rintro e w' ⟨rfl,hww⟩;obtain rfl:=hww.symm))
   go_ret2
   exact⟨by rw[HE.out];rfl,rfl⟩
  ·rw[if_neg h4] at hE
   have HE:Hid (zax T a f=none):=hE
   clear hE
   go_enter Tryz.func82,Tryz.ntmps82
   go_wp2_with (first|(go_at_call 107;refine HL.out.mono ?_;rintro e w' ⟨rfl,hww⟩;obtain rfl:=hww.symm))
   go_ret2
   exact⟨by rw[HE.out];rfl,rfl⟩
theorem zqi(w:World)(tb:Nat)(T:zad)(fp:List Nat)(h:zat lo w tb T fp) :
  Calls Tryz.prog 139 #[.pointer (some ⟨tb,0,none⟩)] w fun e w'=>e=.returned (.int .i64 (T.count:Nat))/\w'=w:=by
 obtain⟨nv,ns,h1,rfl⟩:=h
 obtain⟨hc,hfz⟩:=h1.box.rules
 have hlt:=h1.box.lt
 clear h1
 go_enter Tryz.func139,Tryz.ntmps139
 go_wp2
 go_ret
 exact⟨rfl,rfl⟩
end Go.Proofs.YteampbddflhngabGreat
