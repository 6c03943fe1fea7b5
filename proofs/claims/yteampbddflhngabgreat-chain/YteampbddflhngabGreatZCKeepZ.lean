import Derived.Test.YteampbddflhngabGreatZCPz3
import Derived.Test.YteampbddflhngabGreatZ42
import Derived.Test.YteampbddflhngabGreatZCKeepA

namespace Go.Proofs.YteampbddflhngabGreat
open Classical
theorem ybk:∀ {a b:zao},ltR a b->¬ ltR b a
 |[],_,h=>by cases h
 |_::_,[],h=>by cases h
 |x::a,y::b,h=>by
  intro k
  rcases h with h|⟨rfl,h⟩
  ·rcases k with k|⟨e,_⟩
   ·omega
   ·omega
  ·rcases k with k|⟨_,k⟩
   ·omega
   ·exact ybk h k
theorem z95{α:Type}{lt:α->α->Prop}(asym:∀ a b,lt a b->¬ lt b a):∀ {l m:List α},l.Pairwise lt->m.Pairwise lt->(∀ x,x∈l↔x∈m)->l=m
 |[],[],_,_,_=>rfl
 |[],y::m,_,_,h=>by have:=(h y).2 (by simp);cases this
 |x::l,[],_,_,h=>by have:=(h x).1 (by simp);cases this
 |x::l,y::m,hl,hm,h=>by
  obtain⟨l1,l2⟩:=List.pairwise_cons.1 hl
  obtain⟨m1,m2⟩:=List.pairwise_cons.1 hm
  have e:x=y:=by
   rcases List.mem_cons.1 ((h x).1 (by simp)) with e|e
   ·exact e
   ·rcases List.mem_cons.1 ((h y).2 (by simp)) with k|k
    ·exact k.symm
    ·exact absurd (l1 y k) (asym _ _ (m1 x e))
  subst e
  have hne:∀ z∈l,z≠x:=fun z hz q=>by subst q;exact asym _ _ (l1 z hz) (l1 z hz)
  have hne2:∀ z∈m,z≠x:=fun z hz q=>by subst q;exact asym _ _ (m1 z hz) (m1 z hz)
  rw[z95 asym l2 m2 fun z=>?_]
  constructor
  ·intro hz
   exact(List.mem_cons.1 ((h z).1 (by simp[hz]))).resolve_left (hne z hz)
  ·intro hz
   exact(List.mem_cons.1 ((h z).2 (by simp[hz]))).resolve_left (hne2 z hz)
theorem ydi:∀ {a b:zao} (x y:zao),ltR a b->ltR (a++x) (b++y)
 |[],_,_,_,h=>by cases h
 |_::_,[],_,_,h=>by cases h
 |u::a,v::b,x,y,h=>by
  rcases h with h|⟨rfl,h⟩
  ·exact Or.inl h
  ·exact Or.inr ⟨rfl,ydi x y h⟩
theorem z9x(R:zbk)(p:Nat):(zrg R p).Pairwise ltR:=by
 unfold zrg
 rw[List.pairwise_map]
 refine(zmb (R.rows.getD p zad.zero) _ 0 0).imp ?_
 intro a b h
 unfold pad
 exact ydi _ _ h
theorem ya0(R:zbk)(p:Nat):(zrg R p).Nodup:=(z9x R p).imp fun{a b} h e=>by subst e;exact ybk h h
theorem yaz{t:List zar}{ns:List ByteArray}{R:zbk}(h:Told t ns R){p:Nat}(hp:p < t.length)(r:zao):r∈zrg R p↔InD (zc0 (t.map (·.arity)) R) p r:=by
 have hpr:p < R.rows.length:=by rw[h.len];exact hp
 have:=zjb h.inv h.small hpr r
 unfold zrg
 rw[getD_lt _ hpr]
 exact this
def LpZ:Nat->List zao
 |0=>[]
 |n+1=>LpZ n++(List.range (n+1)).map fun i=>[i,n+1,0]
def LqZ:Nat->List zao
 |0=>[[0,0,0]]
 |n+1=>LqZ n++(List.range (n+2)).map fun j=>[n+1,j,0]
theorem yc3:∀(n:Nat) (x:zao),x∈LpZ n↔∃ i j,i < j/\j<=n/\x=[i,j,0]
 |0,x=>by simp[LpZ];intro i j a b;omega
 |n+1,x=>by
  rw[LpZ,List.mem_append,yc3 n,List.mem_map]
  constructor
  ·rintro(⟨i,j,a1,a2,rfl⟩|⟨i,hi,rfl⟩)
   ·exact⟨i,j,a1,by omega,rfl⟩
   ·exact⟨i,n+1,by simpa using hi,by omega,rfl⟩
  ·rintro⟨i,j,a1,a2,rfl⟩
   by_cases h:j<=n
   ·exact Or.inl ⟨i,j,a1,h,rfl⟩
   ·obtain rfl:j=n+1:=by omega
    exact Or.inr ⟨i,by simpa using a1,rfl⟩
theorem yc4:∀(n:Nat) (x:zao),x∈LqZ n↔∃ i j,i<=n/\j<=i/\x=[i,j,0]
 |0,x=>by
  simp only[LqZ,List.mem_singleton]
  constructor
  ·rintro rfl;exact⟨0,0,by omega,by omega,rfl⟩
  ·rintro⟨i,j,a,b,rfl⟩
   obtain rfl:i=0:=by omega
   obtain rfl:j=0:=by omega
   rfl
 |n+1,x=>by
  rw[LqZ,List.mem_append,yc4 n,List.mem_map]
  constructor
  ·rintro(⟨i,j,a1,a2,rfl⟩|⟨j,hj,rfl⟩)
   ·exact⟨i,j,by omega,a2,rfl⟩
   ·exact⟨n+1,j,by omega,by have:=List.mem_range.1 hj;omega,rfl⟩
  ·rintro⟨i,j,a1,a2,rfl⟩
   by_cases h:i<=n
   ·exact Or.inl ⟨i,j,h,a2,rfl⟩
   ·obtain rfl:i=n+1:=by omega
    exact Or.inr ⟨j,by simp;omega,rfl⟩
theorem yci:∀ n,(LpZ n).Nodup
 |0=>List.nodup_nil
 |n+1=>by
  rw[LpZ,List.nodup_append]
  refine⟨yci n,?_,?_⟩
  ·rw[List.nodup_iff_pairwise_ne,List.pairwise_map]
   exact(List.pairwise_lt_range (n:=n+1)).imp fun{a b} h e=>by simp only[List.cons.injEq] at e;omega
  ·intro x hx y hy e
   subst e
   obtain⟨i,j,a1,a2,rfl⟩:=(yc3 n x).1 hx
   obtain⟨k,_,e⟩:=List.mem_map.1 hy
   simp only[List.cons.injEq,and_true] at e
   omega
theorem ycj:∀ n,(LqZ n).Nodup
 |0=>by simp[LqZ]
 |n+1=>by
  rw[LqZ,List.nodup_append]
  refine⟨ycj n,?_,?_⟩
  ·rw[List.nodup_iff_pairwise_ne,List.pairwise_map]
   exact(List.pairwise_lt_range (n:=n+2)).imp fun{a b} h e=>by simp only[List.cons.injEq,true_and] at e;omega
  ·intro x hx y hy e
   subst e
   obtain⟨i,j,a1,a2,rfl⟩:=(yc4 n x).1 hx
   obtain⟨k,_,e⟩:=List.mem_map.1 hy
   simp only[List.cons.injEq,and_true] at e
   omega
theorem yd5:∀ n,2 * (LpZ n).length=n * (n+1)
 |0=>rfl
 |n+1=>by
  have ih:=yd5 n
  rw[LpZ,List.length_append,List.length_map,List.length_range,Nat.mul_add,ih,← Nat.add_mul,Nat.mul_comm]
theorem yd6:∀ n,2 * (LqZ n).length=(n+1) * (n+2)
 |0=>rfl
 |n+1=>by
  have ih:=yd6 n
  rw[LqZ,List.length_append,List.length_map,List.length_range,Nat.mul_add,ih,← Nat.add_mul,Nat.mul_comm]
theorem yb4{l m:List zao}(hl:l.Nodup)(hm:m.Nodup)(h:∀ x,x∈l↔x∈m):l.length=m.length:=Nat.le_antisymm (zlu hl fun x hx=>(h x).1 hx) (zlu hm fun x hx=>(h x).2 hx)
structure yeo (n:Nat) (R R2:zbk):Prop where
 len:2 * (zrg R 2).length=n * (n+1)
 lenq:(zrg R 3).length+(zrg R 2).length=(n+1) * (n+1)
 same:zrg R2 1=zrg R 2
 row:∀ r∈zrg R 2,∃ i j,i < j/\j<=n/\r=[i,j,0]/\zci (z9d n) r 2 3=[z9e i,z9e j]/\zwk z81 (z9d n) R bPp (zci (z9d n) r 2 3)=(j - i,0)
theorem ycw{n:Nat}{R R2:zbk}(h:Told z81 (z9d n) R)(h2:Told z9a (z9d n) R2)(hR:zc0 (z81.map (·.arity)) R=FqZ n){E:DB}(hR2:zc0 (z9a.map (·.arity)) R2=E)(hE:∀ x,InD E 1 x↔PkZ n n x):yeo n R R2:=by
 have m2:∀ r,r∈zrg R 2↔∃ i j,i < j/\j<=n/\r=[i,j,0]:=fun r=>by
  rw[yaz h (show 2 < z81.length by decide),hR]
  unfold InD
  rw[yad (by omega)]
  have:=dk2 n n r
  unfold InD at this
  rw[this]
  constructor
  ·rintro⟨i,j,a1,a2,_,e⟩;exact⟨i,j,a1,a2,e⟩
  ·rintro⟨i,j,a1,a2,e⟩;exact⟨i,j,a1,a2,by omega,e⟩
 have m3:∀ r,r∈zrg R 3↔∃ i j,i<=n/\j<=i/\r=[i,j,0]:=fun r=>by rw[yaz h (show 3 < z81.length by decide),hR,fq3]
 have m1:∀ r,r∈zrg R2 1↔r∈zrg R 2:=fun r=>by
  rw[yaz h2 (show 1 < z9a.length by decide),hR2,hE,m2]
  constructor
  ·rintro⟨i,j,a1,a2,_,e⟩;exact⟨i,j,a1,a2,e⟩
  ·rintro⟨i,j,a1,a2,e⟩;exact⟨i,j,a1,a2,by omega,e⟩
 have l2:(zrg R 2).length=(LpZ n).length:=yb4 (ya0 R 2) (yci n) fun x=>by rw[m2,yc3]
 have l3:(zrg R 3).length=(LqZ n).length:=yb4 (ya0 R 3) (ycj n) fun x=>by rw[m3,yc4]
 have hp:=yd5 n
 have hq:=yd6 n
 refine⟨by rw[l2];exact hp,?_,z95 (fun a b=>ybk) (z9x R2 1) (z9x R 2) m1,fun r hr=>?_⟩
 ·have e:(n+1) * (n+2)=(n+1) * (n+1)+(n+1):=by rw[show n+2=(n+1)+1 from rfl,Nat.mul_add,Nat.mul_one]
  have e2:(n+1) * (n+1)=n * (n+1)+(n+1):=by rw[Nat.add_mul,Nat.one_mul]
  omega
 ·obtain⟨i,j,a1,a2,rfl⟩:=(m2 r).1 hr
  have ht:zci (z9d n) [i,j,0] 2 3=[z9e i,z9e j]:=by
   rw[← ycb (show i<=n by omega),← ycb a2]
   rfl
  have hw:=h.when (show 2 < z81.length by decide) hr
  have e1:ztj z81 2=bPp:=rfl
  have e2:zbn z81 2=2:=rfl
  rw[e1,e2] at hw
  refine⟨i,j,a1,a2,rfl,ht,?_⟩
  rw[hw]
  have hD:zc0 (z81.map (·.arity)) R 2 [i,j,0]=some (j - i):=by
   rw[hR,yad (by omega)]
   unfold DkZ
   have hPk:PkZ n n [i,j,0]:=⟨i,j,a1,a2,by omega,rfl⟩
   rw[if_neg (by omega),if_pos rfl,if_pos hPk]
   rfl
  obtain⟨f,hf,f1,f2⟩:∃ f∈zwy z81 (z9d n) R z81.length,f=z06 z81 (z9d n) R 2 [i,j,0]/\True:=by
   refine⟨_,?_,rfl,trivial⟩
   unfold zwy
   exact List.mem_flatMap.2 ⟨2,by decide,List.mem_map.2 ⟨_,hr,rfl⟩⟩
  have hg:(ztj z81 2,zci (z9d n) [i,j,0] (zbn z81 2) 3,j - i)∈zwy z81 (z9d n) R z81.length:=(zsk h _).2 ⟨2,by decide,_,_,hD,rfl⟩
  have:=z8a h hf hg (by rw[f1];rfl) (by rw[f1];rfl)
  rw[← f1,this]
end Go.Proofs.YteampbddflhngabGreat
namespace Go.Proofs.YteampbddflhngabGreat
set_option maxRecDepth 100000
set_option maxHeartbeats 4000000
open Go.RowKit
def yao(w:World)(g:Nat)(ls:List (List ByteArray)):Prop:=∀ i (_:i < ls.length),∃ gi lo,w.cell? ⟨g,i,none⟩=some (.slice (some ⟨gi,0,none⟩) 2 2)/\gi < w.heap.size/\g < w.heap.size/\SIn lo w (.slice (some ⟨gi,0,none⟩) 2 2) ls[i]
theorem yao.below{w w':World}{g:Nat}{ls:List (List ByteArray)}(h:yao w g ls)(hb:Below w.heap.size w w'):yao w' g ls:=fun i hi=>by
 obtain⟨gi,lo,c,h1,h2,h3⟩:=h i hi
 have hz:=hb.size
 exact⟨gi,lo,(hb.cell (p:=⟨g,i,none⟩) h2).trans c,by omega,by omega,h3.below hb⟩
theorem yd1{B:Nat}{w:World}{g:Nat}{gs:List Nat}{ns:List ByteArray}{rs:List zao}(h1:w.ownsRow B 38 1 (.slice (some ⟨g,0,none⟩) rs.length rs.length) rs.length (gs.map (z5w 2)))(h2:Copies B w (rs.map (zt1 ns 2)) gs):yao w g (rs.map fun r=>zci ns r 2 3):=by
 intro i hi
 have hi':i < rs.length:=by simpa using hi
 have hl:gs.length=rs.length:=by simpa using h2.1
 have hig:i < gs.length:=by omega
 obtain⟨g',cap',hv,_,hg,hc⟩:=zas h1 (by omega)
 simp only[Value.slice.injEq,Option.some.injEq,Addr.mk.injEq,and_true] at hv
 have e:=hv.1
 subst e
 have hcell:=hc i (z5w 2 gs[i]) (by simp[hig])
 obtain⟨_,hS⟩:=h2.2.2 i (by simpa using hi') hig
 have hS2:SIn B w (z5w 2 gs[i]) (zci ns rs[i] 2 3):=by
  have q:=hS
  simp only[List.getElem_map,zt1,zjf] at q
  exact q
 refine⟨gs[i],B,hcell,zdo (b:=gs[i]) hS2 rfl,hg,?_⟩
 simp only[List.getElem_map]
 exact hS2
theorem z97{lo lp:Nat}(w:World)(rb:Nat){t:List zar}{ns:List ByteArray}{R:zbk}{pv nv rv:Value}{tbs:List Nat}(h:zwp lo lp w rb t ns R pv nv rv tbs)(hT:Told t ns R){pred:ByteArray}{p:Nat}(hs:(zbb t pred).isSome=true)(hf:zbd t pred=p)(hp:p < t.length)(ha:zbn t p=2) :
  Calls Tryz.prog 28 #[.pointer (some ⟨rb,0,none⟩),.string pred] w fun e w'=>∃ g,e=.returned (.tuple #[.slice (some ⟨g,0,none⟩) (zrg R p).length (zrg R p).length,.int .i64 0])/\Hid (yao w' g ((zrg R p).map fun r=>zci ns r 2 3))/\Hid (Below w.heap.size w w'):=by
 subst hf
 have hpr:zbd t pred < R.rows.length:=by rw[hT.len];exact hp
 obtain⟨fuel,f1,f2⟩:=hT.rows hpr
 refine(z8e w rb t ns R pv nv rv tbs pred h hs hpr fuel _ f1 (by omega)).mono ?_
 rintro e w' ⟨g,gs,_,h1,h2,h3,h4⟩
 rw[ha] at h2 h3
 exact⟨g,h1,yd1 h2 h3,h4⟩
theorem yas:zbb z81 bQq=some ⟨bQq,2,1⟩/\zbb z81 bPp=some ⟨bPp,2,0⟩:=⟨by kernel_rfl,by kernel_rfl⟩
theorem yd3:zbb z9a bPp=some ⟨bPp,2,0⟩:=by kernel_rfl
theorem ycm:∀ n,n < 30->(z9e n).size=2/\10 * (bAt (z9e n) 0)+bAt (z9e n) 1=528+(n:Int)/\0<=bAt (z9e n) 0/\bAt (z9e n) 0<=255:=by decide +kernel
theorem yc9(w:World)(n:Nat)(hn:1<=n)(hn2:n<=28) :
  Calls Tryz.prog 15 #[.int .i64 n] w fun e w'=>e=.returned (.bool true)/\Below w.heap.size w w':=by
 have HDG:Hid (∀ W (k:Nat),k < 100->Calls Tryz.prog 29 #[.int .i64 k] W fun e w'=>e=.returned (.string (z9e k))/\Below W.heap.size W w'):=fun W k hk=>ycz W k hk
 have HC1:Hid (∀ W,Calls Tryz.prog 19 #[.string (chT n++yeu)] W fun e w'=>∃ pb,e=.returned (.tuple #[.pointer (some ⟨pb,0,none⟩),.int .i64 0])/\Hid (zou W.heap.size w' pb (eCs n++z9p) z81)/\Hid (Below W.heap.size W w')):=fun W=>by
  obtain⟨c1,_⟩:=z9z yb0 yb1 (by decide) hn hn2
  refine(z7c (chT n++yeu) W (by rw[ByteArray.size_append,yab];have:yeu.size=89:=rfl;omega)).mono ?_
  rintro e w' ⟨hb,h2⟩
  rw[c1] at h2
  obtain⟨pb,v,pv,h3,h4,h5,h6,h7⟩:=h2
  exact⟨pb,h3,⟨h7,v,pv,h4,h5,h6⟩,hb⟩
 have HC2:Hid (∀ W,Calls Tryz.prog 19 #[.string (chT n++yew)] W fun e w'=>∃ pb,e=.returned (.tuple #[.pointer (some ⟨pb,0,none⟩),.int .i64 0])/\Hid (zou W.heap.size w' pb (eCs n++yaf) z9a)/\Hid (Below W.heap.size W w')):=fun W=>by
  obtain⟨c1,_⟩:=z9z two_first yb5 (by decide) hn hn2
  refine(z7c (chT n++yew) W (by rw[ByteArray.size_append,yab];have:yew.size=37:=rfl;omega)).mono ?_
  rintro e w' ⟨hb,h2⟩
  rw[c1] at h2
  obtain⟨pb,v,pv,h3,h4,h5,h6,h7⟩:=h2
  exact⟨pb,h3,⟨h7,v,pv,h4,h5,h6⟩,hb⟩
 have HR1:Hid (∀ W0 W lp pb,zou lp W0 pb (eCs n++z9p) z81->lp<=W0.heap.size->Below W0.heap.size W0 W->Calls Tryz.prog 24 #[.pointer (some ⟨pb,0,none⟩),.slice none 0 0,.int .i64 4096,.int .i64 4096] W fun e w'=>∃ rb,e=.returned (.tuple #[.pointer (some ⟨rb,0,none⟩),.int .i64 0])/\Hid (∃(R:zbk) (pv nv rv:Value) (tbs:List Nat) (lo:Nat),zwp lo lp w' rb z81 (z9d n) R pv nv rv tbs/\Told z81 (z9d n) R/\zc0 (z81.map (·.arity)) R=FqZ n)/\Hid (Below W.heap.size W w')):=fun W0 W lp pb hp hl hb=>by
  obtain⟨_,t0,p1⟩:=z9z yb0 yb1 (by decide) hn hn2
  have hns:zav (eCs n++z9p)=z9d n:=yac (by decide) hn hn2
  have hA:=yeg hn hn2 p1
  refine(z8j W pb (hp.below hb) p1 (Nat.le_trans hl hb.size) 4096 4096 (by omega) (by omega)).mono ?_
  intro e w' q
  rw[hns,hA] at q
  obtain⟨R,rb,pv,nv,rv,tbs,q1,q2,q3,q4,q5,q6,q7,q8,q9⟩:=q
  rw[← hns] at hA q4
  have hT:=p1.told q4 q5 hA q8
  rw[hns] at hT
  exact⟨rb,q2,⟨R,pv,nv,rv,tbs,_,q3,hT,q5⟩,q9⟩
 have HR2:Hid (∀ W0 W lp pb,zou lp W0 pb (eCs n++yaf) z9a->lp<=W0.heap.size->Below W0.heap.size W0 W->Calls Tryz.prog 24 #[.pointer (some ⟨pb,0,none⟩),.slice none 0 0,.int .i64 4096,.int .i64 4096] W fun e w'=>∃ rb,e=.returned (.tuple #[.pointer (some ⟨rb,0,none⟩),.int .i64 0])/\Hid (∃(R:zbk) (pv nv rv:Value) (tbs:List Nat) (lo:Nat) (E:DB),zwp lo lp w' rb z9a (z9d n) R pv nv rv tbs/\Told z9a (z9d n) R/\zc0 (z9a.map (·.arity)) R=E/\∀ x,InD E 1 x↔PkZ n n x)/\Hid (Below W.heap.size W w')):=fun W0 W lp pb hp hl hb=>by
  obtain⟨_,t0,p1⟩:=z9z two_first yb5 (by decide) hn hn2
  have hns:zav (eCs n++yaf)=z9d n:=yac (by decide) hn hn2
  obtain⟨E,ee,hA,hE⟩:=yem hn2 p1
  refine(z8j W pb (hp.below hb) p1 (Nat.le_trans hl hb.size) 4096 4096 (by omega) (by omega)).mono ?_
  intro e w' q
  rw[hns,hA] at q
  obtain⟨R,rb,pv,nv,rv,tbs,q1,q2,q3,q4,q5,q6,q7,q8,q9⟩:=q
  rw[← hns] at hA q4
  have hT:=p1.told q4 q5 hA q8
  rw[hns] at hT
  exact⟨rb,q2,⟨R,pv,nv,rv,tbs,_,E,q3,hT,q5,hE⟩,q9⟩
 have HST:Hid (∀ W0 W lp pb,zou lp W0 pb (eCs n++z9p) z81->Below W0.heap.size W0 W->(Calls Tryz.prog 32 #[.pointer (some ⟨pb,0,none⟩),.string ⟨#[113]⟩] W fun e w'=>e=.returned (.tuple #[.int .i64 1,.int .i64 0])/\w'=W)/\Calls Tryz.prog 32 #[.pointer (some ⟨pb,0,none⟩),.string ⟨#[112]⟩] W fun e w'=>e=.returned (.tuple #[.int .i64 0,.int .i64 0])/\w'=W):=fun W0 W lp pb hp hb=>⟨zz5 W pb _ z81 bQq ⟨bQq,2,1⟩ (hp.below hb) (by decide) yas.1,zz5 W pb _ z81 bPp ⟨bPp,2,0⟩ (hp.below hb) (by decide) yas.2⟩
 go_enter Tryz.func15,Tryz.ntmps15
 go_wp2
 go_loopw [3,4] (fun v3 v4 wr=>∃(k:Nat),k<=n/\v4=.int .i64 k/\v3=.string (chT k)/\Hid (Below w.heap.size w wr)) (fun _ v4 _=>n - (intOf v4).toNat)
 case atStart=>exact⟨0,Nat.zero_le _,rfl,rfl,Below.refl _ _⟩
 case round =>
  obtain⟨k,hk,rfl,rfl,HB⟩:=hrel
  have hsz:=yab k
  by_cases hlt:k < n
  ·have hki:(k:Int) < (n:Int):=by omega
   have hd1:(z9e k).size=2:=rfl
   have hd2:(z9e (k+1)).size=2:=rfl
   have HS:Hid (chT k++⟨#[101,40]⟩++z9e k++⟨#[44]⟩++z9e (k+1)++⟨#[41,46]⟩=chT (k+1)):=rfl
   have HD1:Hid (∀ W,Calls Tryz.prog 29 #[.int .i64 k] W fun e w'=>e=.returned (.string (z9e k))/\Below W.heap.size W w'):=fun W=>HDG.out W k (by omega)
   have HD2:Hid (∀ W,Calls Tryz.prog 29 #[.int .i64 ((k:Int)+1)] W fun e w'=>e=.returned (.string (z9e (k+1)))/\Below W.heap.size W w'):=fun W=>HDG.out W (k+1) (by omega)
   generalize z9e k=da at *
   generalize z9e (k+1)=db at *
   generalize chT k=x at *
   go_wp2_with (first|(go_at_call 29;have hq:=hb2;refine(HD2.out _).mono ?_;rintro e w3 ⟨rfl,hb3⟩)|(go_at_call 29;refine(HD1.out _).mono ?_;rintro e w2 ⟨rfl,hb2⟩))
   go_roundw
   case rel=>exact⟨k+1,by omega,by go_num,by rw[← HS.out],zae HB.out (zae hb2 hb3 (Nat.le_refl _)) (Nat.le_refl _)⟩
   case measure=>simp[intOf];omega
  ·have hki:¬ (k:Int) < (n:Int):=by omega
   obtain rfl:k=n:=by omega
   clear HDG
   have HRS1:Hid (∀ W0 W (R:zbk) pv nv rv tbs lo lp rb,zwp lo lp W0 rb z81 (z9d k) R pv nv rv tbs->Told z81 (z9d k) R->Below W0.heap.size W0 W->(Calls Tryz.prog 28 #[.pointer (some ⟨rb,0,none⟩),.string ⟨#[112]⟩] W fun e w'=>∃ g,e=.returned (.tuple #[.slice (some ⟨g,0,none⟩) (zrg R 2).length (zrg R 2).length,.int .i64 0])/\Hid (yao w' g ((zrg R 2).map fun r=>zci (z9d k) r 2 3))/\Hid (Below W.heap.size W w'))/\Calls Tryz.prog 28 #[.pointer (some ⟨rb,0,none⟩),.string ⟨#[113]⟩] W fun e w'=>∃ g,e=.returned (.tuple #[.slice (some ⟨g,0,none⟩) (zrg R 3).length (zrg R 3).length,.int .i64 0])/\Hid (yao w' g ((zrg R 3).map fun r=>zci (z9d k) r 2 3))/\Hid (Below W.heap.size W w')):=fun W0 W R pv nv rv tbs lo lp rb h1 h2 hb=>⟨z97 W rb (h1.below hb) h2 (pred:=bPp) (p:=2) (by rw[yas.2];rfl) yae.2.2.1 (by decide) rfl,z97 W rb (h1.below hb) h2 (pred:=bQq) (p:=3) (by rw[yas.1];rfl) yae.2.2.2 (by decide) rfl⟩
   have HRS2:Hid (∀ W0 W (R R2:zbk) pv nv rv tbs lo lp rb,zwp lo lp W0 rb z9a (z9d k) R2 pv nv rv tbs->Told z9a (z9d k) R2->Below W0.heap.size W0 W->zrg R2 1=zrg R 2->Calls Tryz.prog 28 #[.pointer (some ⟨rb,0,none⟩),.string ⟨#[112]⟩] W fun e w'=>∃ g,e=.returned (.tuple #[.slice (some ⟨g,0,none⟩) (zrg R 2).length (zrg R 2).length,.int .i64 0])/\Hid (yao w' g ((zrg R 2).map fun r=>zci (z9d k) r 2 3))/\Hid (Below W.heap.size W w')):=fun W0 W R R2 pv nv rv tbs lo lp rb h1 h2 hb he=>by
    rw[← he]
    exact z97 W rb (h1.below hb) h2 (pred:=bPp) (p:=1) (by rw[yd3];rfl) ybq.2.1 (by decide) rfl
   go_upto_region 18 with (first|(go_at_call 19;have hq:=HB2;refine(HC2.out _).mono ?_;rintro e w3 ⟨qb,rfl,HP3,HB3⟩)|(go_at_call 19;refine(HC1.out _).mono ?_;rintro e w2 ⟨pb,rfl,HP2,HB2⟩)|(go_at_call 24;have hq:=HB4;refine(HR2.out _ _ _ _ HP3.out HB3.out.size HB4.out).mono ?_;rintro e w5 ⟨sb,rfl,HX5,HB5⟩)|(go_at_call 24;refine(HR1.out _ _ _ _ HP2.out HB2.out.size HB3.out).mono ?_;rintro e w4 ⟨rb,rfl,HX4,HB4⟩))
   obtain⟨R,pv,nv,rv,tbs,lo,hro,hto,hab⟩:=HX4.out
   obtain⟨R2,pv2,nv2,rv2,tbs2,lo2,E,hro2,hto2,hab2,hE⟩:=HX5.out
   have hcr:=ycw hto hto2 hab hab2 hE
   have K1:=HRS1.out w4 w5 R pv nv rv tbs lo _ rb hro hto HB5.out
   have K1p:Hid (Calls Tryz.prog 28 #[.pointer (some ⟨rb,0,none⟩),.string ⟨#[112]⟩] w5 fun e w'=>∃ g,e=.returned (.tuple #[.slice (some ⟨g,0,none⟩) (zrg R 2).length (zrg R 2).length,.int .i64 0])/\Hid (yao w' g ((zrg R 2).map fun r=>zci (z9d k) r 2 3))/\Hid (Below w5.heap.size w5 w')):=K1.1
   have K2p:Hid (∀ W,Below w5.heap.size w5 W->Calls Tryz.prog 28 #[.pointer (some ⟨sb,0,none⟩),.string ⟨#[112]⟩] W fun e w'=>∃ g,e=.returned (.tuple #[.slice (some ⟨g,0,none⟩) (zrg R 2).length (zrg R 2).length,.int .i64 0])/\Hid (yao w' g ((zrg R 2).map fun r=>zci (z9d k) r 2 3))/\Hid (Below W.heap.size W w')):=fun W hb=>HRS2.out w5 W R R2 pv2 nv2 rv2 tbs2 lo2 _ sb hro2 hto2 hb hcr.same
   have K3p:Hid (∀ W,Below w5.heap.size w5 W->Calls Tryz.prog 28 #[.pointer (some ⟨rb,0,none⟩),.string ⟨#[113]⟩] W fun e w'=>∃ g,e=.returned (.tuple #[.slice (some ⟨g,0,none⟩) (zrg R 3).length (zrg R 3).length,.int .i64 0])/\Hid (Below W.heap.size W w')):=fun W hb=>((HRS1.out w4 W R pv nv rv tbs lo _ rb hro hto (zae HB5.out hb (Nat.le_refl _))).2).mono fun e w' ⟨g,q1,_,q3⟩=>⟨g,q1,q3⟩
   have HWN:Hid (∀ W lo2 (tv:Value) (row:List ByteArray),Below w5.heap.size w5 W->SIn lo2 W tv row->row.length<=1000->Calls Tryz.prog 31 #[.pointer (some ⟨rb,0,none⟩),.string ⟨#[112]⟩,tv] W fun e w'=>e=.returned (.tuple #[.int .i64 ((zwk z81 (z9d k) R bPp row).1:Nat),.int .i64 ((zwk z81 (z9d k) R bPp row).2:Nat)])/\Hid (Below W.heap.size W w')):=fun W lo2 tv row hb hs hl=>z8n W rb z81 (z9d k) R pv nv rv tbs bPp row tv (hro.below (zae HB5.out hb (Nat.le_refl _))) hs (by omega)
   have hml:=hcr.len
   have hmq:=hcr.lenq
   obtain⟨ls,hls⟩:∃ ls,ls=(zrg R 2).map fun r=>zci (z9d k) r 2 3:=⟨_,rfl⟩
   have hlen:(zrg R 2).length=ls.length:=by rw[hls,List.length_map]
   have HROW:Hid (∀ i (hi:i < ls.length),∃ a b,a < b/\b<=k/\ls[i]=[z9e a,z9e b]/\zwk z81 (z9d k) R bPp [z9e a,z9e b]=(b - a,0)):=fun i hi=>by
    have hi2:i < (zrg R 2).length:=by rw[hlen];exact hi
    obtain⟨a,b,a1,a2,_,a4,a5⟩:=hcr.row _ (List.getElem_mem hi2)
    rw[a4] at a5
    refine⟨a,b,a1,a2,?_,a5⟩
    subst hls
    rw[List.getElem_map]
    exact a4
   rw[hlen] at hml hmq K1p K2p
   rw[← hls] at K1p K2p
   clear hro hto hab hro2 hto2 hab2 hE hcr K1 HRS1 HRS2 HX4 HX5 HC1 HC2 HR1 HR2 hlen hls
   generalize (zrg R 3).length=mq at *
   have hmI:(k:Int) * ((k:Int)+1)=2 * (ls.length:Int):=by
    have:((2 * ls.length:Nat):Int)=((k * (k+1):Nat):Int):=by rw[hml]
    push_cast at this
    omega
   have hqI:((k:Int)+1) * ((k:Int)+1)=(mq:Int)+(ls.length:Int):=by
    have:((mq+ls.length:Nat):Int)=(((k+1) * (k+1):Nat):Int):=by rw[hmq]
    push_cast at this
    omega
   have hml4:ls.length<=406:=by
    have:k * (k+1)<=28 * 29:=Nat.mul_le_mul hn2 (by omega)
    omega
   have hmq4:mq<=841:=by
    have:(k+1) * (k+1)<=29 * 29:=Nat.mul_le_mul (by omega) (by omega)
    omega
   clear hml hmq
   go_upto_region 21 with (first|(go_at_call 28;have hq:=HB7;refine(K3p.out _ (zae HB6.out HB7.out (Nat.le_refl _))).mono ?_;rintro e w8 ⟨gc,rfl,HB8⟩)|(go_at_call 28;have hq:=HB6;refine(K2p.out _ HB6.out).mono ?_;rintro e w7 ⟨gb,rfl,HZ7,HB7⟩)|(go_at_call 28;refine K1p.out.mono ?_;rintro e w6 ⟨ga,rfl,HZ6,HB6⟩))
   go_cut [133] from 98 to 133 (fun s133 wx=>s133=.bool false/\wx=w8)
   case first =>
    have hd:(2 * (ls.length:Int)).tdiv 2=(ls.length:Int):=by rw[Int.mul_tdiv_cancel_left _ (by decide)]
    go_wp2
    go_meet
    case rel=>exact⟨rfl,rfl⟩
   case rest =>
    obtain⟨rfl,hwx⟩:=hcut
    subst hwx
    have HB58:Hid (Below w5.heap.size w5 wc):=zae HB6.out (zae HB7.out HB8.out (Nat.le_refl _)) (Nat.le_refl _)
    have HZa:Hid (yao wc ga ls):=(HZ6.out.below HB7.out).below HB8.out
    have HZb:Hid (yao wc gb ls):=HZ7.out.below HB8.out
    have HBW:Hid (Below w.heap.size w wc):=zae HB.out (zae HB2.out (zae HB3.out (zae HB4.out (zae HB5.out HB58.out (Nat.le_refl _)) (Nat.le_refl _)) (Nat.le_refl _)) (Nat.le_refl _)) (Nat.le_refl _)
    have HB2c:Hid (Below w2.heap.size w2 wc):=zae HB3.out (zae HB4.out (zae HB5.out HB58.out (Nat.le_refl _)) (Nat.le_refl _)) (Nat.le_refl _)
    clear HZ6 HZ7 HB6 HB7 HB8 K1p K2p K3p hmI hqI
    go_wp2
    go_loopw [19] (fun v19 wr=>∃ i:Nat,i<=ls.length/\v19=.int .i64 i/\Hid (Below wc.heap.size wc wr)) (fun v19 _=>ls.length - (intOf v19).toNat)
    case atStart=>exact⟨0,Nat.zero_le _,rfl,Below.refl _ _⟩
    case round =>
     obtain⟨i,hi,rfl,HBi⟩:=hrel
     by_cases hil:i < ls.length
     ·have hii:(i:Int) < (ls.length:Int):=by omega
      obtain⟨a,b,a1,a2,e1,e2⟩:=HROW.out i hil
      obtain⟨gi,lo3,ca,hga,hg1,hSa⟩:=HZa.out.below HBi.out i hil
      obtain⟨gj,lo4,cb,hgb,hg2,hSb⟩:=HZb.out.below HBi.out i hil
      rw[e1] at hSa hSb
      have HSA:Hid (∀ W,Below wr.heap.size wr W->Calls Tryz.prog 30 #[.slice (some ⟨gi,0,none⟩) 2 2,.slice (some ⟨gj,0,none⟩) 2 2] W fun e w'=>e=.returned (.bool true)/\Hid (Below wr.heap.size wr w')/\w'.cell? ⟨ga,i,none⟩=some (.slice (some ⟨gi,0,none⟩) 2 2)/\w'.cell? ⟨gb,i,none⟩=some (.slice (some ⟨gj,0,none⟩) 2 2)):=fun W hb=>by
       refine(z8b W _ _ _ _ (hSa.below hb) (hSb.below hb) (by simp) (by simp)).mono ?_
       rintro e w' ⟨h1,h2⟩
       have hb3:=zae hb h2 (Nat.le_refl _)
       exact⟨by rw[h1];simp,hb3,(hb3.cell (p:=⟨ga,i,none⟩) hg1).trans ca,(hb3.cell (p:=⟨gb,i,none⟩) hg2).trans cb⟩
      have HWI:Hid (∀ W,Below wr.heap.size wr W->Calls Tryz.prog 31 #[.pointer (some ⟨rb,0,none⟩),.string ⟨#[112]⟩,.slice (some ⟨gi,0,none⟩) 2 2] W fun e w'=>e=.returned (.tuple #[.int .i64 ((b - a:Nat):Int),.int .i64 0])/\Hid (Below W.heap.size W w')):=fun W hb=>by
       have:=HWN.out W _ _ _ (zae HB58.out (zae HBi.out hb (Nat.le_refl _)) (Nat.le_refl _)) (hSa.below hb) (by simp)
       rw[e2] at this
       exact this
      have HSC:Hid (∀ W,Below wr.heap.size wr W->W.cell? ⟨ga,i,none⟩=some (.slice (some ⟨gi,0,none⟩) 2 2)/\W.cell? ⟨gi,0,none⟩=some (.string (z9e a))/\W.cell? ⟨gi,1,none⟩=some (.string (z9e b))/\ga < W.heap.size/\gi < W.heap.size):=fun W hb=>by
       have hz:=hb.size
       obtain⟨g5,q5,_,c5⟩:=(hSa.below hb).cell 0 (by simp)
       obtain⟨g6,q6,_,c6⟩:=(hSa.below hb).cell 1 (by simp)
       simp only[Option.some.injEq,Addr.mk.injEq,and_true] at q5 q6
       subst q5 q6
       exact⟨(hb.cell (p:=⟨ga,i,none⟩) hg1).trans ca,c5,c6,by omega,by omega⟩
      have hv1:=ycm a (by omega)
      have hv2:=ycm b (by omega)
      clear e1 e2 hSa hSb
      generalize z9e a=xa at *
      generalize z9e b=xb at *
      obtain⟨za,va,va0,va1⟩:=hv1
      obtain⟨zb,vb,vb0,vb1⟩:=hv2
      rw[zr5 (show 0 < xa.size by omega),zr5 (show 1 < xa.size by omega)] at va
      rw[zr5 (show 0 < xb.size by omega),zr5 (show 1 < xb.size by omega)] at vb
      rw[zr5 (show 0 < xa.size by omega)] at va0 va1
      rw[zr5 (show 0 < xb.size by omega)] at vb0 vb1
      go_upto_region 26 with fail
      go_cut [20] from 140 to 148 (fun s20 wx=>s20=.bool true/\Hid (Below wr.heap.size wr wx))
      case first =>
       go_region_held3 (fun w'=>w'.cell? ⟨ga,i,none⟩=some (.slice (some ⟨gi,0,none⟩) 2 2)/\w'.cell? ⟨gb,i,none⟩=some (.slice (some ⟨gj,0,none⟩) 2 2)) (first|go_keep|(go_simp;done)) (first|(go_at_call 30;refine(HSA.out _ (by exact(by repeat'(first|with_reducible(first|exact zR _ _|assumption|refine zN ?_ _|refine zA ?_ ?_ _|refine zD ?_|refine zS ?_ ?_ _)|go_size)))).mono ?_;rintro e w9 ⟨rfl,HB9,z0,z1⟩))
       go_wp2
       go_meet
       case rel=>exact⟨rfl,HB9⟩
      case rest =>
       obtain⟨rfl,HBx⟩:=hcut
       obtain⟨y1,y2,y3,y4,y5⟩:=HSC.out _ HBx.out
       go_upto_region 28 with (first|(go_at_call 31;refine(HWI.out _ HBx.out).mono ?_;rintro e w10 ⟨rfl,HB10⟩))
       have HBy:Hid (Below wr.heap.size wr w10):=zae HBx.out HB10.out (Nat.le_refl _)
       obtain⟨u1,u2,u3,u4,u5⟩:=HSC.out _ HBy.out
       clear y1 y2 y3 y4 y5
       go_cut [23] from 158 to 175 (fun s23 wx=>s23=.int .i64 (528+(a:Int))/\Hid (Below w10.heap.size w10 wx))
       case first =>
        go_quiet (fail)
        go_wp2
        go_meet
        case rel=>exact⟨by rw[← va],zaw (Below.refl _ _) _⟩
       case rest =>
        obtain⟨rfl,HBz⟩:=hcut
        have HBy2:Hid (Below wr.heap.size wr wc):=zae HBy.out HBz.out (Nat.le_refl _)
        obtain⟨p1,p2,p3,p4,p5⟩:=HSC.out _ HBy2.out
        clear u1 u2 u3 u4 u5
        go_upto_region 29 with fail
        go_cut [24] from 176 to 193 (fun s24 wx=>s24=.int .i64 (528+(b:Int))/\Hid (Below wc.heap.size wc wx))
        case first =>
         go_quiet (fail)
         go_wp2
         go_meet
         case rel=>exact⟨by rw[← vb],zaw (Below.refl _ _) _⟩
        case rest =>
         obtain⟨rfl,HBu⟩:=hcut
         have hsub:((b - a:Nat):Int)=(528+(b:Int)) - (528+(a:Int)):=by omega
         have HBv:Hid (Below wc.heap.size wc wc):=Below.refl _ _
         have HBe:Hid (Below wr.heap.size wr wc):=zae HBy2.out HBu.out (Nat.le_refl _)
         clear p1 p2 p3 p4 p5 va vb va0 va1 vb0 vb1 za zb HBv
         go_upto_region 30 with fail
         go_cut [202] from 194 to 202 (fun s202 wx=>s202=.bool false/\wx=wc)
         case first =>
          go_wp2
          go_meet
          case rel=>exact⟨by simp,rfl⟩
         case rest =>
          obtain⟨rfl,hwx⟩:=hcut
          subst hwx
          have HBf:=HBe
          go_wp2
          go_roundw
          case rel=>exact⟨i+1,by omega,by go_num,zae HBi.out HBf.out (Nat.le_refl _)⟩
          case measure=>simp[intOf];omega
     ·have hii:¬ (i:Int) < (ls.length:Int):=by omega
      have HB2r:Hid (Below w2.heap.size w2 wr):=zae HB2c.out HBi.out (Nat.le_refl _)
      have HBWr:Hid (Below w.heap.size w wr):=zae HBW.out HBi.out (Nat.le_refl _)
      have HS1:=HST.out _ wr _ _ HP2.out HB2r.out
      have HS2:Hid (Calls Tryz.prog 32 #[.pointer (some ⟨pb,0,none⟩),.string ⟨#[113]⟩] wr fun e w'=>e=.returned (.tuple #[.int .i64 1,.int .i64 0])/\w'=wr):=HS1.1
      have HS3:Hid (Calls Tryz.prog 32 #[.pointer (some ⟨pb,0,none⟩),.string ⟨#[112]⟩] wr fun e w'=>e=.returned (.tuple #[.int .i64 0,.int .i64 0])/\w'=wr):=HS1.2
      clear HS1
      go_wp2_with (first|(go_at_call 32;have hq:=hfa;refine HS3.out.mono ?_;rintro e w12 ⟨rfl,hww⟩;obtain rfl:=hww.symm)|(go_at_call 32;refine HS2.out.mono ?_;rintro e w11 ⟨rfl,hww⟩;obtain rfl:=hww.symm;have hfa:=HBWr))
      go_ret
      exact⟨rfl,HBWr.out⟩
theorem yc2(w:World)(a:Int)(ha:-9223372036854775808<=a/\a<=9223372036854775807) :
  Calls Tryz.prog 6 #[.int .i64 a] w fun e w'=>e=.returned (.bool true)/\Below w.heap.size w w':=by
 have hlt:=ydw a (show 0 < 28 by omega)
 have HPK:Hid (∀ W,Calls Tryz.prog 14 #[.int .i64 a,.int .i64 28] W fun e w'=>e=.returned (.int .i64 (yai a 28:Nat))/\w'=W):=fun W=>ydf W a 28 (by omega) (by omega) ha
 generalize yai a 28=k at *
 have HCH:Hid (∀ W,Calls Tryz.prog 15 #[.int .i64 (1+(k:Int))] W fun e w'=>e=.returned (.bool true)/\Below W.heap.size W w'):=fun W=>by
  have:=yc9 W (1+k) (by omega) (by omega)
  rw[show((1+k:Nat):Int)=1+(k:Int) by omega] at this
  exact this
 go_enter Tryz.func6,Tryz.ntmps6
 go_wp2_with (first|(go_at_call 14;refine(HPK.out _).mono ?_;rintro e w1 ⟨rfl,hww⟩;obtain rfl:=hww.symm)|(go_at_call 15;refine(HCH.out _).mono ?_;rintro e w2 ⟨rfl,hb2⟩))
 go_ret
 exact⟨rfl,hb2⟩
end Go.Proofs.YteampbddflhngabGreat
