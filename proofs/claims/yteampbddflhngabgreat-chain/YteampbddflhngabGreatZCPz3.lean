import Derived.Test.YteampbddflhngabGreatZCKeepA

namespace Go.Proofs.YteampbddflhngabGreat
def bE:ByteArray:=⟨#[101]⟩
def chT:Nat->ByteArray
 |0=>ByteArray.empty
 |n+1=>chT n++⟨#[101,40]⟩++z9e n++⟨#[44]⟩++z9e (n+1)++⟨#[41,46]⟩
def eC(i:Nat):zab:=⟨⟨false,bE,[z9e i,z9e (i+1)]⟩,[]⟩
def eCs(n:Nat):List zab:=(List.range n).map eC
theorem yds(n:Nat):eCs (n+1)=eCs n++[eC n]:=by unfold eCs;rw[List.range_succ,List.map_append];rfl
theorem ydb:∀ n,n < 30->bl (z9e n)≠[]/\(bl (z9e n)).length<=6/\zu3 (hdB (bl (z9e n)))=true/\∀ b∈bl (z9e n),zu3 (byt b)=true:=by decide +kernel
theorem yar{n:Nat}(h:n < 30):ya4 (bl (z9e n)):=by
 obtain⟨h1,h2,h3,h4⟩:=ydb n h
 exact⟨h1,h2,Or.inr ⟨h3,h4⟩⟩
theorem yc5:ya4 (bl bE)/\zr6 (hdB (bl bE))=true:=⟨⟨by decide,by decide,Or.inl ⟨Or.inl (by decide),by decide⟩⟩,by decide⟩
theorem ydr{i:Nat}(h:i < 29):z9s (eC i):=⟨rfl,⟨yc5,fun x hx=>by
 simp only[eC,List.mem_cons,List.not_mem_nil,or_false] at hx
 rcases hx with rfl|rfl
 ·exact yar (by omega)
 ·exact yar (by omega)⟩,fun l hl=>by cases hl⟩
theorem ydj:RdA [44] [(6,signs.comma)]:=ybm (b:=44) (k:=6) (by decide) (fun _=>by unfold zib;simp[byt,zr6,z6j,zu3,z4c]) (by decide)
theorem ydy{i:Nat}(h:i < 29):RdF (bl (⟨#[101,40]⟩++z9e i++⟨#[44]⟩++z9e (i+1)++⟨#[41,46]⟩:ByteArray)) (clK signs (eC i)):=by
 have h1:=ydk (yar (show i < 30 by omega))
 have h2:=ydk (yar (show i+1 < 30 by omega))
 have he:RdN (bl bE) [(1,bE)]:=yej (l:=⟨false,bE,[]⟩) ⟨yc5,fun x hx=>by cases hx⟩
 have hc:RdA (bl z8y++bl z8z) ([(5,signs.shut)]++[(7,signs.dot)]):=yek.app yev
 have h3:=h2.app (by decide) (by decide) hc
 have h4:=ydj.app h3
 have h5:=h1.app (l':=[44]++(bl (z9e (i+1))++(bl z8y++bl z8z))) (by simp) (by rfl) h4
 have h6:=yei.app h5
 have h7:=he.app (l':=bl z8x++(bl (z9e i)++([44]++(bl (z9e (i+1))++(bl z8y++bl z8z))))) (by simp[bl,z8x]) (by rfl) h6
 have h8:=h7.rdf
 have e1:bl (⟨#[101,40]⟩++z9e i++⟨#[44]⟩++z9e (i+1)++⟨#[41,46]⟩:ByteArray)=bl bE++(bl z8x++(bl (z9e i)++([44]++(bl (z9e (i+1))++(bl z8y++bl z8z))))):=by
  simp only[yc6]
  have a1:bl (⟨#[101,40]⟩:ByteArray)=bl bE++bl z8x:=rfl
  have a2:bl (⟨#[44]⟩:ByteArray)=[44]:=rfl
  have a3:bl (⟨#[41,46]⟩:ByteArray)=bl z8y++bl z8z:=rfl
  rw[a1,a2,a3]
  simp only[List.append_assoc]
 rw[e1]
 have e2:clK signs (eC i)=[(1,bE)]++([(4,signs.op)]++([yc0 (z9e i)]++([(6,signs.comma)]++([yc0 (z9e (i+1))]++([(5,signs.shut)]++[(7,signs.dot)]))))):=rfl
 rw[e2]
 exact h8
theorem yb3:∀ n,n<=28->RdF (bl (chT n)) (z9b signs (eCs n))
 |0,_=>RdF.nil
 |n+1,h=>by
  have ih:=yb3 n (by omega)
  have h2:=ih.app (ydy (show n < 29 by omega))
  have e1:bl (chT (n+1))=bl (chT n)++bl (⟨#[101,40]⟩++z9e n++⟨#[44]⟩++z9e (n+1)++⟨#[41,46]⟩:ByteArray):=by
   rw[← yc6,show chT (n+1)=chT n++⟨#[101,40]⟩++z9e n++⟨#[44]⟩++z9e (n+1)++⟨#[41,46]⟩ from rfl]
   simp only[ByteArray.append_assoc]
  rw[e1,yds]
  have e2:z9b signs (eCs n++[eC n])=z9b signs (eCs n)++clK signs (eC n):=by simp[z9b]
  rw[e2]
  exact h2
theorem yab:∀ n,(chT n).size=9 * n
 |0=>rfl
 |n+1=>by
  unfold chT
  simp only[ByteArray.size_append,yab n,yda]
  have e1:(⟨#[101,40]⟩:ByteArray).size=2:=rfl
  have e2:(⟨#[44]⟩:ByteArray).size=1:=rfl
  have e3:(⟨#[41,46]⟩:ByteArray).size=2:=rfl
  omega
theorem yah:∀ i,i < 29->zeh (eC i)=false/\ze4 (eC i)=true/\za6 (z9e i)=false:=by decide +kernel
def bNn:ByteArray:=⟨#[110]⟩
def bPp:ByteArray:=⟨#[112]⟩
def bQq:ByteArray:=⟨#[113]⟩
def vX:ByteArray:=⟨#[88]⟩
def vY:ByteArray:=⟨#[89]⟩
def vZ:ByteArray:=⟨#[90]⟩
def yeu:ByteArray:=⟨#[112,40,88,44,89,41,58,45,101,40,88,44,89,41,46,112,40,88,44,90,41,58,45,112,40,88,44,89,41,44,101,40,89,44,90,41,46,110,40,88,41,58,45,101,40,88,44,89,41,46,110,40,89,41,58,45,101,40,88,44,89,41,46,113,40,88,44,89,41,58,45,110,40,88,41,44,110,40,89,41,44,33,112,40,88,44,89,41,46]⟩
def yew:ByteArray:=⟨#[112,40,88,44,89,41,58,45,101,40,88,44,89,41,46,112,40,88,44,90,41,58,45,112,40,88,44,89,41,44,112,40,89,44,90,41,46]⟩
def z9p:List zab:=[⟨⟨false,bPp,[vX,vY]⟩,[⟨false,bE,[vX,vY]⟩]⟩,⟨⟨false,bPp,[vX,vZ]⟩,[⟨false,bPp,[vX,vY]⟩,⟨false,bE,[vY,vZ]⟩]⟩,⟨⟨false,bNn,[vX]⟩,[⟨false,bE,[vX,vY]⟩]⟩,⟨⟨false,bNn,[vY]⟩,[⟨false,bE,[vX,vY]⟩]⟩,⟨⟨false,bQq,[vX,vY]⟩,[⟨false,bNn,[vX]⟩,⟨false,bNn,[vY]⟩,⟨true,bPp,[vX,vY]⟩]⟩]
def yaf:List zab:=[⟨⟨false,bPp,[vX,vY]⟩,[⟨false,bE,[vX,vY]⟩]⟩,⟨⟨false,bPp,[vX,vZ]⟩,[⟨false,bPp,[vX,vY]⟩,⟨false,bPp,[vY,vZ]⟩]⟩]
def z81:List zar:=[⟨bE,2,0⟩,⟨bNn,1,0⟩,⟨bPp,2,0⟩,⟨bQq,2,1⟩]
def z9a:List zar:=[⟨bE,2,0⟩,⟨bPp,2,0⟩]
theorem yb0:z4m (chT 1++yeu)=.ok (eCs 1++z9p,z81):=by kernel_rfl
theorem two_first:z4m (chT 1++yew)=.ok (eCs 1++yaf,z9a):=by kernel_rfl
theorem yb1:z88 (bl yeu)=some (z9b signs z9p):=by kernel_rfl
theorem yb5:z88 (bl yew)=some (z9b signs yaf):=by kernel_rfl
theorem z9z{rT:ByteArray}{rR:List zab}{t:List zar}(h1:z4m (chT 1++rT)=.ok (eCs 1++rR,t))(hs:z88 (bl rT)=some (z9b signs rR))(hsz:rT.size<=200){n:Nat}(hn:1<=n)(hn2:n<=28):z4m (chT n++rT)=.ok (eCs n++rR,t)/\∃ t0,Parts (eCs n++rR) t0 t:=by
 obtain⟨a1,a2,a3⟩:=ycy h1
 obtain⟨t0,hp⟩:=z7t h1
 have hwR:∀ c∈rR,z9s c:=fun c hc=>a2 c (List.mem_append.2 (Or.inr hc))
 have hw:∀ c∈eCs n++rR,z9s c:=by
  intro c hc
  rcases List.mem_append.1 hc with hc|hc
  ·obtain⟨i,hi,rfl⟩:=List.mem_map.1 hc
   exact ydr (by have:=List.mem_range.1 hi;omega)
  ·exact hwR c hc
 have hr:=ybn (bl rT) [] rR (by simp) (by simpa using hs) hwR
 rw[List.nil_append] at hr
 have hsp:z88 (bl (chT n++rT))=some (z9b signs (eCs n++rR)):=by
  rw[yc6]
  have:=ybo ((yb3 n hn2).app hr)
  rw[this]
  simp[z9b]
 have h5:(chT n++rT).size<=500:=by rw[ByteArray.size_append,yab];omega
 have few:=yeq h5 hsp hw
 have hp2:Parts (eCs n++rR) t0 t:=by
  refine hp.alike few (fun c hc=>?_) (fun c hc=>?_) (fun m k=>?_) (fun f=>?_)
  ·rcases List.mem_append.1 hc with hc|hc
   ·obtain⟨i,hi,rfl⟩:=List.mem_map.1 hc
    exact(yah i (by have:=List.mem_range.1 hi;omega)).1
   ·exact hp.many c (List.mem_append.2 (Or.inr hc))
  ·rcases List.mem_append.1 hc with hc|hc
   ·obtain⟨i,hi,rfl⟩:=List.mem_map.1 hc
    exact(yah i (by have:=List.mem_range.1 hi;omega)).2.1
   ·exact hp.safe c (List.mem_append.2 (Or.inr hc))
  ·have hE:∀ N,1<=N->((∃ l∈(eCs N++rR).flatMap za1,l.pred=m/\l.args.length=k)↔(bE=m/\2=k)∨∃ l∈rR.flatMap za1,l.pred=m/\l.args.length=k):=by
    intro N hN
    rw[List.flatMap_append]
    constructor
    ·rintro⟨l,hl,q⟩
     rcases List.mem_append.1 hl with hl|hl
     ·obtain⟨c,hc,hlc⟩:=List.mem_flatMap.1 hl
      obtain⟨i,hi,rfl⟩:=List.mem_map.1 hc
      simp only[za1,eC,List.mem_singleton] at hlc
      subst hlc
      exact Or.inl q
     ·exact Or.inr ⟨l,hl,q⟩
    ·rintro(q|⟨l,hl,q⟩)
     ·exact⟨(eC 0).head,List.mem_append.2 (Or.inl (List.mem_flatMap.2 ⟨eC 0,List.mem_map.2 ⟨0,by simp;omega,rfl⟩,by simp[za1]⟩)),q⟩
     ·exact⟨l,List.mem_append.2 (Or.inr hl),q⟩
   rw[hE n hn,hE 1 (Nat.le_refl _)]
  ·have hS:∀ N,Sol (eCs N++rR) f↔Sol rR f:=by
    intro N
    unfold Sol
    constructor
    ·exact fun q c hc=>q c (List.mem_append.2 (Or.inr hc))
    ·intro q c hc l hl
     rcases List.mem_append.1 hc with hc|hc
     ·obtain⟨i,hi,rfl⟩:=List.mem_map.1 hc
      cases hl
     ·exact q c hc l hl
   rw[hS n,hS 1]
 exact⟨yeb h5 hsp hw hp2.many hp2.coll hp2.safe hp2.strat,t0,hp2⟩
def z9d(n:Nat):List ByteArray:=(List.range (n+1)).map z9e
theorem yep:∀ i,i < 30->∀ j,j < 30->i < j->ltB (z9e i) (z9e j)=true:=by decide +kernel
theorem ybx{n:Nat}(h:n<=28):zb9 (z9d n):=by
 unfold zb9 z9d
 rw[List.pairwise_map]
 refine(List.pairwise_lt_range (n:=n+1)).imp_of_mem ?_
 intro a b ha hb q
 have:=List.mem_range.1 ha
 have:=List.mem_range.1 hb
 exact yep a (by omega) b (by omega) q
theorem ycb{n i:Nat}(h:i<=n):(z9d n).getD i ByteArray.empty=z9e i:=by
 unfold z9d
 simp[List.getD,show i < n+1 by omega]
theorem yac{rR:List zab}(hv:∀ c∈rR,∀ l∈za1 c,∀ y∈l.args,za6 y=true){n:Nat}(hn:1<=n)(hn2:n<=28):zav (eCs n++rR)=z9d n:=by
 refine zrd (zkn _).1 (ybx hn2) fun y=>?_
 rw[(zkn _).2]
 constructor
 ·rintro⟨c,hc,l,hl,hy,hq⟩
  rcases List.mem_append.1 hc with hc|hc
  ·obtain⟨i,hi,rfl⟩:=List.mem_map.1 hc
   have:=List.mem_range.1 hi
   simp only[za1,eC,List.mem_singleton] at hl
   subst hl
   simp only[List.mem_cons,List.not_mem_nil,or_false] at hy
   rcases hy with rfl|rfl
   ·exact List.mem_map.2 ⟨i,by simp;omega,rfl⟩
   ·exact List.mem_map.2 ⟨i+1,by simp;omega,rfl⟩
  ·have:=hv c hc l hl y hy
   rw[hq] at this
   cases this
 ·intro hy
  obtain⟨i,hi,rfl⟩:=List.mem_map.1 hy
  have hi2:=List.mem_range.1 hi
  by_cases h0:i < n
  ·exact⟨eC i,List.mem_append.2 (Or.inl (List.mem_map.2 ⟨i,by simp;omega,rfl⟩)),(eC i).head,by simp[za1],by simp[eC],(yah i (by omega)).2.2⟩
  ·obtain rfl:i=n:=by omega
   have e:i - 1+1=i:=by omega
   exact⟨eC (i - 1),List.mem_append.2 (Or.inl (List.mem_map.2 ⟨i - 1,by simp;omega,rfl⟩)),(eC (i - 1)).head,by simp[za1],by simp[eC,e],(yah i (by omega)).2.2⟩
theorem yb8{n i:Nat}(hn:n<=28)(hi:i<=n):(zcy (z9d n) (z9e i)).getD 0=i:=by
 have:=zuh (ybx hn) (v:=i) (by simp[z9d];omega)
 rw[ycb hi] at this
 rw[this]
 rfl
end Go.Proofs.YteampbddflhngabGreat
namespace Go.Proofs.YteampbddflhngabGreat
open Classical
theorem ye0(D:DB)(p:Nat)(x:zao):D p x=none↔¬ InD D p x:=by
 unfold InD
 cases D p x <;> simp
theorem z90(rs:List zah)(k:Nat)(D:DB)(p:Nat)(x:zao):InD (zgw rs k D) p x↔InD D p x∨zrx rs D p x:=by
 unfold InD zgw
 cases D p x with
 |some m=>simp
 |none =>
  by_cases h:zrx rs D p x <;> simp[h]
theorem z99(rules:List zah)(mr mx:Nat):∀(n s k:Nat) (D:DB),(∀ s',s<=s'->(rules.filter fun r=>decide (r.stratum=s'))=[])->zev rules mr mx n s k D=some (D,k)
 |0,_,_,_,_=>rfl
 |n+1,s,k,D,h=>by
  unfold zev
  rw[if_pos (h s (Nat.le_refl _))]
  exact z99 rules mr mx n (s+1) k D fun s' hs=>h s' (by omega)
theorem z9y{t:List zar}{ns:List ByteArray}(cs:List zab)(s:Nat):((zep t ns none cs).filter fun r=>decide (r.stratum=s))=[]↔¬ ∃ c∈cs,0 < c.body.length/\zds t c.head.pred=s:=by
 rw[List.filter_eq_nil_iff]
 constructor
 ·rintro q ⟨c,hc,hb,hs⟩
  obtain⟨i,hi,rfl⟩:=List.mem_iff_getElem.1 hc
  have:=q _ (zpx.2 ⟨i,hi,hb,rfl⟩)
  exact this (decide_eq_true hs)
 ·intro q r hr
  obtain⟨i,hi,hb,rfl⟩:=zpx.1 hr
  exact fun e=>q ⟨_,List.getElem_mem hi,hb,of_decide_eq_true e⟩
theorem z9q{D:DB}{U:List (Nat × zao)}{mr:Nat}(h:∀ p x,InD D p x->(p,x)∈U)(hl:U.length<=mr):zqr D mr:=by
 have:∀ V:List (Nat × zao),∃ l:List (Nat × zao),l.Nodup/\(∀ u,u∈l↔u∈V/\InD D u.1 u.2)/\l.length<=V.length:=by
  intro V
  induction V with
  |nil=>exact⟨[],List.nodup_nil,by simp,Nat.le_refl _⟩
  |cons v V ih =>
   obtain⟨l,l1,l2,l3⟩:=ih
   by_cases q:InD D v.1 v.2/\v∉V
   ·refine⟨v::l,List.nodup_cons.2 ⟨fun m=>q.2 ((l2 v).1 m).1,l1⟩,fun u=>?_,by simp;omega⟩
    rw[List.mem_cons,List.mem_cons,l2]
    constructor
    ·rintro(rfl|⟨a,b⟩)
     ·exact⟨Or.inl rfl,q.1⟩
     ·exact⟨Or.inr a,b⟩
    ·rintro⟨rfl|a,b⟩
     ·exact Or.inl rfl
     ·exact Or.inr ⟨a,b⟩
   ·refine⟨l,l1,fun u=>?_,by simp;omega⟩
    rw[l2,List.mem_cons]
    constructor
    ·rintro⟨a,b⟩
     exact⟨Or.inr a,b⟩
    ·rintro⟨rfl|a,b⟩
     ·have:u∈V:=by
       false_or_by_contra
       rename_i hn
       exact q ⟨b,hn⟩
      exact⟨this,b⟩
     ·exact⟨a,b⟩
 obtain⟨l,l1,l2,l3⟩:=this U
 exact⟨l.length,by omega,l,l1,fun p x=>⟨fun m=>((l2 _).1 m).2,fun q=>(l2 _).2 ⟨h p x q,q⟩⟩,rfl⟩
def chU(n:Nat):List (Nat × zao):=((List.range 4).flatMap fun p=>(List.range (n+1)).flatMap fun i=>(List.range (n+1)).map fun j=>(p,[i,j,0]))
theorem z9o{n p i j:Nat}(hp:p < 4)(hi:i<=n)(hj:j<=n):(p,[i,j,0])∈chU n:=by
 unfold chU
 refine List.mem_flatMap.2 ⟨p,by simp;omega,List.mem_flatMap.2 ⟨i,by simp;omega,List.mem_map.2 ⟨j,by simp;omega,rfl⟩⟩⟩
theorem yc8{n:Nat}(h:n<=28):(chU n).length<=4096:=by
 have:(chU n).length=4 * ((n+1) * (n+1)):=by
  unfold chU
  simp[List.length_flatMap,List.map_const']
  omega
 rw[this]
 have:(n+1) * (n+1)<=29 * 29:=Nat.mul_le_mul (by omega) (by omega)
 omega
def sgZ(a b c:Nat):ByteArray->Nat:=fun v=>if v=vX then a else if v=vY then b else c
theorem ycr(a b c:Nat):sgZ a b c vX=a:=if_pos rfl
theorem ycs(a b c:Nat):sgZ a b c vY=b:=by unfold sgZ;rw[if_neg (by decide),if_pos rfl]
theorem yez(a b c:Nat):sgZ a b c vZ=c:=by unfold sgZ;rw[if_neg (by decide),if_neg (by decide)]
theorem z9w(ns:List ByteArray)(σ:ByteArray->Nat)(g:Bool)(P:ByteArray):z5q ns σ ⟨g,P,[vX,vY]⟩=[σ vX,σ vY,0]:=rfl
theorem ydz(ns:List ByteArray)(σ:ByteArray->Nat)(g:Bool)(P:ByteArray):z5q ns σ ⟨g,P,[vX,vZ]⟩=[σ vX,σ vZ,0]:=rfl
theorem yd0(ns:List ByteArray)(σ:ByteArray->Nat)(g:Bool)(P:ByteArray):z5q ns σ ⟨g,P,[vY,vZ]⟩=[σ vY,σ vZ,0]:=rfl
theorem yex(ns:List ByteArray)(σ:ByteArray->Nat)(g:Bool)(P:ByteArray):z5q ns σ ⟨g,P,[vX]⟩=[σ vX,0,0]:=rfl
theorem yey(ns:List ByteArray)(σ:ByteArray->Nat)(g:Bool)(P:ByteArray):z5q ns σ ⟨g,P,[vY]⟩=[σ vY,0,0]:=rfl
theorem yae:zbd z81 bE=0/\zbd z81 bNn=1/\zbd z81 bPp=2/\zbd z81 bQq=3:=by decide +kernel
theorem yax:zds z81 bNn=0/\zds z81 bPp=0/\zds z81 bQq=1:=by decide +kernel
theorem ybl{n:Nat}{c:zab}(hc:c∈eCs n++z9p)(hb:0 < c.body.length):c∈z9p:=by
 rcases List.mem_append.1 hc with hc|hc
 ·obtain⟨i,_,rfl⟩:=List.mem_map.1 hc
  simp[eC] at hb
 ·exact hc
theorem ydm{n:Nat}(ns:List ByteArray)(D:DB)(p:Nat)(x:zao):z8p z81 ns (eCs n++z9p) 0 D p x↔(p=2/\∃ a b,x=[a,b,0]/\(InD D 0 [a,b,0]∨∃ c,InD D 2 [a,c,0]/\InD D 0 [c,b,0]))∨(p=1/\∃ a,x=[a,0,0]/\∃ b,(InD D 0 [a,b,0]∨InD D 0 [b,a,0])):=by
 obtain⟨f0,f1,f2,f3⟩:=yae
 obtain⟨s1,s2,s3⟩:=yax
 have hin:∀ c∈z9p,c∈eCs n++z9p:=fun c hc=>List.mem_append.2 (Or.inr hc)
 constructor
 ·rintro⟨c,hc,hb,hs,hp,σ,d1,d2,d3⟩
  have hc:=ybl hc hb
  simp only[z9p,List.mem_cons,List.not_mem_nil,or_false] at hc
  rcases hc with rfl|rfl|rfl|rfl|rfl
  ·have:=d1 _ (List.mem_singleton.2 rfl) rfl
   simp only[f0,f2,z9w] at this hp d3
   exact Or.inl ⟨hp,_,_,d3,Or.inl this⟩
  ·have h1:=d1 ⟨false,bPp,[vX,vY]⟩ (by simp) rfl
   have h2:=d1 ⟨false,bE,[vY,vZ]⟩ (by simp) rfl
   simp only[f0,f2,z9w,yd0,ydz] at h1 h2 hp d3
   exact Or.inl ⟨hp,_,_,d3,Or.inr ⟨_,h1,h2⟩⟩
  ·have:=d1 _ (List.mem_singleton.2 rfl) rfl
   simp only[f0,f1,z9w,yex] at this hp d3
   exact Or.inr ⟨hp,_,d3,_,Or.inl this⟩
  ·have:=d1 _ (List.mem_singleton.2 rfl) rfl
   simp only[f0,f1,z9w,yey] at this hp d3
   exact Or.inr ⟨hp,_,d3,_,Or.inr this⟩
  ·simp only[s3] at hs
   cases hs
 ·rintro(⟨rfl,a,b,rfl,h|⟨c,h1,h2⟩⟩|⟨rfl,a,rfl,b,h|h⟩)
  ·refine⟨⟨⟨false,bPp,[vX,vY]⟩,[⟨false,bE,[vX,vY]⟩]⟩,hin _ (by simp[z9p]),by simp,s2,f2.symm,sgZ a b 0,fun l hl _=>?_,fun l hl hn=>?_,?_⟩
   ·rw[List.mem_singleton.1 hl,f0,z9w,ycr,ycs];exact h
   ·rw[List.mem_singleton.1 hl] at hn;cases hn
   ·rw[z9w,ycr,ycs]
  ·refine⟨⟨⟨false,bPp,[vX,vZ]⟩,[⟨false,bPp,[vX,vY]⟩,⟨false,bE,[vY,vZ]⟩]⟩,hin _ (by simp[z9p]),by simp,s2,f2.symm,sgZ a c b,fun l hl _=>?_,fun l hl hn=>?_,?_⟩
   ·simp only[List.mem_cons,List.not_mem_nil,or_false] at hl
    rcases hl with rfl|rfl
    ·rw[f2,z9w,ycr,ycs];exact h1
    ·rw[f0,yd0,ycs,yez];exact h2
   ·simp only[List.mem_cons,List.not_mem_nil,or_false] at hl
    rcases hl with rfl|rfl <;> cases hn
   ·rw[ydz,ycr,yez]
  ·refine⟨⟨⟨false,bNn,[vX]⟩,[⟨false,bE,[vX,vY]⟩]⟩,hin _ (by simp[z9p]),by simp,s1,f1.symm,sgZ a b 0,fun l hl _=>?_,fun l hl hn=>?_,?_⟩
   ·rw[List.mem_singleton.1 hl,f0,z9w,ycr,ycs];exact h
   ·rw[List.mem_singleton.1 hl] at hn;cases hn
   ·rw[yex,ycr]
  ·refine⟨⟨⟨false,bNn,[vY]⟩,[⟨false,bE,[vX,vY]⟩]⟩,hin _ (by simp[z9p]),by simp,s1,f1.symm,sgZ b a 0,fun l hl _=>?_,fun l hl hn=>?_,?_⟩
   ·rw[List.mem_singleton.1 hl,f0,z9w,ycr,ycs];exact h
   ·rw[List.mem_singleton.1 hl] at hn;cases hn
   ·rw[yey,ycs]
theorem ydn{n:Nat}(ns:List ByteArray)(D:DB)(p:Nat)(x:zao):z8p z81 ns (eCs n++z9p) 1 D p x↔p=3/\∃ a b,x=[a,b,0]/\InD D 1 [a,0,0]/\InD D 1 [b,0,0]/\D 2 [a,b,0]=none:=by
 obtain⟨f0,f1,f2,f3⟩:=yae
 obtain⟨s1,s2,s3⟩:=yax
 constructor
 ·rintro⟨c,hc,hb,hs,hp,σ,d1,d2,d3⟩
  have hc:=ybl hc hb
  simp only[z9p,List.mem_cons,List.not_mem_nil,or_false] at hc
  rcases hc with rfl|rfl|rfl|rfl|rfl
  ·simp only[s2] at hs;cases hs
  ·simp only[s2] at hs;cases hs
  ·simp only[s1] at hs;cases hs
  ·simp only[s1] at hs;cases hs
  ·have h1:=d1 ⟨false,bNn,[vX]⟩ (by simp) rfl
   have h2:=d1 ⟨false,bNn,[vY]⟩ (by simp) rfl
   have h3:=d2 ⟨true,bPp,[vX,vY]⟩ (by simp) rfl
   simp only[f1,f2,f3,z9w,yex,yey] at h1 h2 h3 hp d3
   exact⟨hp,_,_,d3,h1,h2,h3⟩
 ·rintro⟨rfl,a,b,rfl,h1,h2,h3⟩
  refine⟨⟨⟨false,bQq,[vX,vY]⟩,[⟨false,bNn,[vX]⟩,⟨false,bNn,[vY]⟩,⟨true,bPp,[vX,vY]⟩]⟩,List.mem_append.2 (Or.inr (by simp[z9p])),by simp,s3,f3.symm,sgZ a b 0,fun l hl hn=>?_,fun l hl hn=>?_,?_⟩
  ·simp only[List.mem_cons,List.not_mem_nil,or_false] at hl
   rcases hl with rfl|rfl|rfl
   ·rw[f1,yex,ycr];exact h1
   ·rw[f1,yey,ycs];exact h2
   ·cases hn
  ·simp only[List.mem_cons,List.not_mem_nil,or_false] at hl
   rcases hl with rfl|rfl|rfl
   ·cases hn
   ·cases hn
   ·rw[f2,z9w,ycr,ycs];exact h3
  ·rw[z9w,ycr,ycs]
def PkZ(n k:Nat)(x:zao):Prop:=∃ i j,i < j/\j<=n/\j - i<=k/\x=[i,j,0]
noncomputable def DkZ(n k:Nat):DB:=fun p x =>
 if p=0 then(if ∃ i,i < n/\x=[i,i+1,0] then some 0 else none)
 else if p=2 then(if PkZ n k x then some (x.getD 1 0 - x.getD 0 0) else none)
 else if p=1 then(if 1<=k/\∃ i,i<=n/\x=[i,0,0] then some 1 else none)
 else none
theorem ybz{c:Prop}[Decidable c]{m:Nat}:(if c then some m else none:Option Nat).isSome=true↔c:=by by_cases h:c <;> simp[h]
theorem dk0(n k:Nat)(x:zao):InD (DkZ n k) 0 x↔∃ i,i < n/\x=[i,i+1,0]:=by
 unfold InD DkZ
 rw[if_pos rfl]
 exact ybz
theorem dk2(n k:Nat)(x:zao):InD (DkZ n k) 2 x↔PkZ n k x:=by
 unfold InD DkZ
 rw[if_neg (by omega),if_pos rfl]
 exact ybz
theorem dk1(n k:Nat)(x:zao):InD (DkZ n k) 1 x↔1<=k/\∃ i,i<=n/\x=[i,0,0]:=by
 unfold InD DkZ
 rw[if_neg (by omega),if_neg (by omega),if_pos rfl]
 exact ybz
theorem ya7{n k p:Nat}(h:p≠0/\p≠1/\p≠2)(x:zao):DkZ n k p x=none:=by
 unfold DkZ
 rw[if_neg h.1,if_neg h.2.2,if_neg h.2.1]
theorem ybh{n k:Nat}(h:n<=28):zqr (DkZ n k) 4096:=by
 refine z9q (U:=chU n) (fun p x q=>?_) (yc8 h)
 by_cases h0:p=0
 ·subst h0
  obtain⟨i,hi,rfl⟩:=(dk0 n k x).1 q
  exact z9o (by omega) (by omega) (by omega)
 ·by_cases h2:p=2
  ·subst h2
   obtain⟨i,j,a1,a2,a3,rfl⟩:=(dk2 n k x).1 q
   exact z9o (by omega) (by omega) (by omega)
  ·by_cases h1:p=1
   ·subst h1
    obtain⟨_,i,hi,rfl⟩:=(dk1 n k x).1 q
    exact z9o (by omega) (by omega) (by omega)
   ·unfold InD at q
    rw[ya7 ⟨h0,h1,h2⟩] at q
    cases q
theorem ycn{n k:Nat}(hn:1<=n){rs:List zah}{ns:List ByteArray}(hs:∀ D p x,zrx rs D p x↔z8p z81 ns (eCs n++z9p) 0 D p x):zgw rs (k+1) (DkZ n k)=DkZ n (k+1):=by
 funext p x
 have hst:zrx rs (DkZ n k) p x↔(p=2/\PkZ n (k+1) x)∨(p=1/\∃ i,i<=n/\x=[i,0,0]):=by
  rw[hs,ydm]
  constructor
  ·rintro(⟨rfl,a,b,rfl,h|⟨c,h1,h2⟩⟩|⟨rfl,a,rfl,b,h|h⟩)
   ·obtain⟨i,hi,e⟩:=(dk0 n k _).1 h
    simp only[List.cons.injEq,and_true] at e
    obtain⟨rfl,rfl⟩:=e
    exact Or.inl ⟨rfl,_,_,by omega,by omega,by omega,rfl⟩
   ·obtain⟨i,hi,e⟩:=(dk0 n k _).1 h2
    obtain⟨u,v,a1,a2,a3,e2⟩:=(dk2 n k _).1 h1
    simp only[List.cons.injEq,and_true] at e e2
    obtain⟨rfl,rfl⟩:=e
    obtain⟨rfl,rfl⟩:=e2
    exact Or.inl ⟨rfl,_,_,by omega,by omega,by omega,rfl⟩
   ·obtain⟨i,hi,e⟩:=(dk0 n k _).1 h
    simp only[List.cons.injEq,and_true] at e
    obtain⟨rfl,rfl⟩:=e
    exact Or.inr ⟨rfl,_,by omega,rfl⟩
   ·obtain⟨i,hi,e⟩:=(dk0 n k _).1 h
    simp only[List.cons.injEq,and_true] at e
    obtain⟨rfl,rfl⟩:=e
    exact Or.inr ⟨rfl,_,by omega,rfl⟩
  ·rintro(⟨rfl,i,j,a1,a2,a3,rfl⟩|⟨rfl,i,hi,rfl⟩)
   ·refine Or.inl ⟨rfl,i,j,rfl,?_⟩
    by_cases h1:j=i+1
    ·left
     rw[dk0]
     exact⟨i,by omega,by rw[h1]⟩
    ·right
     refine⟨j - 1,(dk2 n k _).2 ⟨i,j - 1,by omega,by omega,by omega,rfl⟩,(dk0 n k _).2 ⟨j - 1,by omega,by rw[show j - 1+1=j by omega]⟩⟩
   ·refine Or.inr ⟨rfl,i,rfl,?_⟩
    by_cases h1:i < n
    ·exact⟨i+1,Or.inl ((dk0 n k _).2 ⟨i,h1,rfl⟩)⟩
    ·refine⟨i - 1,Or.inr ((dk0 n k _).2 ⟨i - 1,by omega,by rw[show i - 1+1=i by omega]⟩)⟩
 unfold zgw
 by_cases h0:p=0
 ·subst h0
  have hno:¬ zrx rs (DkZ n k) 0 x:=by rw[hst];rintro(⟨q,_⟩|⟨q,_⟩) <;> omega
  have e:DkZ n k 0 x=DkZ n (k+1) 0 x:=by unfold DkZ;rw[if_pos rfl,if_pos rfl]
  rw[← e]
  cases DkZ n k 0 x with
  |some m=>rfl
  |none=>simp[hno]
 ·by_cases h2:p=2
  ·subst h2
   have e:∀ k,DkZ n k 2 x=if PkZ n k x then some (x.getD 1 0 - x.getD 0 0) else none:=fun k=>by unfold DkZ;rw[if_neg (by omega),if_pos rfl]
   rw[e k,e (k+1)]
   by_cases hk:PkZ n k x
   ·have:PkZ n (k+1) x:=by obtain⟨i,j,a1,a2,a3,a4⟩:=hk;exact⟨i,j,a1,a2,by omega,a4⟩
    rw[if_pos hk,if_pos this]
   ·rw[if_neg hk]
    by_cases hk1:PkZ n (k+1) x
    ·rw[if_pos hk1]
     simp only[hst.2 (Or.inl ⟨rfl,hk1⟩),if_true]
     obtain⟨i,j,a1,a2,a3,rfl⟩:=hk1
     have:¬ j - i<=k:=fun q=>hk ⟨i,j,a1,a2,q,rfl⟩
     have:j - i=k+1:=by omega
     simp[this]
    ·rw[if_neg hk1]
     have:¬ zrx rs (DkZ n k) 2 x:=by rw[hst];rintro(⟨_,q⟩|⟨q,_⟩);exact hk1 q;omega
     simp[this]
  ·by_cases h1:p=1
   ·subst h1
    have e:∀ k,DkZ n k 1 x=if 1<=k/\∃ i,i<=n/\x=[i,0,0] then some 1 else none:=fun k=>by unfold DkZ;rw[if_neg (by omega),if_neg (by omega),if_pos rfl]
    rw[e k,e (k+1)]
    by_cases hx:∃ i,i<=n/\x=[i,0,0]
    ·rw[if_pos (⟨by omega,hx⟩:1<=k+1/\_)]
     by_cases hk:1<=k
     ·rw[if_pos ⟨hk,hx⟩]
     ·rw[if_neg (fun q=>hk q.1)]
      have h0:k=0:=by omega
      subst h0
      simp only[hst.2 (Or.inr ⟨rfl,hx⟩),if_true]
    ·have a1:¬ (1<=k/\∃ i,i<=n/\x=[i,0,0]):=fun q=>hx q.2
     have a2:¬ (1<=k+1/\∃ i,i<=n/\x=[i,0,0]):=fun q=>hx q.2
     rw[if_neg a1,if_neg a2]
     have:¬ zrx rs (DkZ n k) 1 x:=by rw[hst];rintro(⟨q,_⟩|⟨_,q⟩);omega;exact hx q
     simp[this]
   ·rw[ya7 ⟨h0,h1,h2⟩,ya7 ⟨h0,h1,h2⟩]
    have:¬ zrx rs (DkZ n k) p x:=by rw[hst];rintro(⟨q,_⟩|⟨q,_⟩) <;> omega
    simp[this]
theorem yec{n:Nat}(hn:1<=n):DkZ n (n+1)=DkZ n n:=by
 have hP:∀ x,PkZ n (n+1) x↔PkZ n n x:=by
  intro x
  constructor
  ·rintro⟨i,j,a1,a2,a3,a4⟩;exact⟨i,j,a1,a2,by omega,a4⟩
  ·rintro⟨i,j,a1,a2,a3,a4⟩;exact⟨i,j,a1,a2,by omega,a4⟩
 have h1:(1<=n+1)=(1<=n):=by simp[hn]
 funext p x
 unfold DkZ
 simp only[hP,h1]
theorem yba{n:Nat}(hn:1<=n)(hn2:n<=28){rs:List zah}{ns:List ByteArray}(hs:∀ D p x,zrx rs D p x↔z8p z81 ns (eCs n++z9p) 0 D p x):∀(d k left:Nat),k+d=n->d < left->zd6 rs 4096 left k (DkZ n k)=some (DkZ n n,n+1)
 |0,k,0,_,h=>by omega
 |0,k,left+1,e,_=>by
  obtain rfl:k=n:=by omega
  unfold zd6
  rw[ycn hn hs,yec hn,if_pos (ybh hn2),if_pos (fun p x q=>q)]
 |d+1,k,0,_,h=>by omega
 |d+1,k,left+1,e,h=>by
  unfold zd6
  rw[ycn hn hs,if_pos (ybh hn2),if_neg]
  ·exact yba hn hn2 hs d (k+1) left (by omega) (by omega)
  ·intro q
   have:=q 2 [0,k+1,0] ((dk2 n (k+1) _).2 ⟨0,k+1,by omega,by omega,by omega,rfl⟩)
   obtain⟨i,j,a1,a2,a3,e4⟩:=(dk2 n k _).1 this
   simp only[List.cons.injEq,and_true] at e4
   omega
noncomputable def FqZ(n:Nat):DB:=fun p x=>if p=3 then(if ∃ i j,i<=n/\j<=i/\x=[i,j,0] then some (n+2) else none) else DkZ n n p x
theorem fq3(n:Nat)(x:zao):InD (FqZ n) 3 x↔∃ i j,i<=n/\j<=i/\x=[i,j,0]:=by
 unfold InD FqZ
 rw[if_pos rfl]
 exact ybz
theorem yad{n p:Nat}(h:p≠3)(x:zao):FqZ n p x=DkZ n n p x:=by unfold FqZ;rw[if_neg h]
theorem yco{n:Nat}(h:n<=28):zqr (FqZ n) 4096:=by
 refine z9q (U:=chU n) (fun p x q=>?_) (yc8 h)
 by_cases h3:p=3
 ·subst h3
  obtain⟨i,j,a1,a2,rfl⟩:=(fq3 n x).1 q
  exact z9o (by omega) (by omega) (by omega)
 ·unfold InD at q
  rw[yad h3] at q
  by_cases h0:p=0
  ·subst h0
   obtain⟨i,hi,rfl⟩:=(dk0 n n x).1 q
   exact z9o (by omega) (by omega) (by omega)
  ·by_cases h2:p=2
   ·subst h2
    obtain⟨i,j,a1,a2,a3,rfl⟩:=(dk2 n n x).1 q
    exact z9o (by omega) (by omega) (by omega)
   ·by_cases h1:p=1
    ·subst h1
     obtain⟨_,i,hi,rfl⟩:=(dk1 n n x).1 q
     exact z9o (by omega) (by omega) (by omega)
    ·rw[ya7 ⟨h0,h1,h2⟩] at q
     cases q
theorem ydc{n:Nat}(hn:1<=n){rs:List zah}{ns:List ByteArray}(hs:∀ D p x,zrx rs D p x↔z8p z81 ns (eCs n++z9p) 1 D p x){D:DB}(hD:∀ p,p≠3->∀ x,D p x=DkZ n n p x)(p:Nat)(x:zao):zrx rs D p x↔p=3/\∃ i j,i<=n/\j<=i/\x=[i,j,0]:=by
 have h1:∀ x,InD D 1 x↔∃ i,i<=n/\x=[i,0,0]:=fun x=>by
  unfold InD
  rw[hD 1 (by omega)]
  have:=dk1 n n x
  unfold InD at this
  rw[this]
  exact⟨fun q=>q.2,fun q=>⟨hn,q⟩⟩
 have h2:∀ x,D 2 x=none↔¬ PkZ n n x:=fun x=>by
  rw[hD 2 (by omega),ye0,dk2]
 rw[hs,ydn]
 constructor
 ·rintro⟨rfl,a,b,rfl,q1,q2,q3⟩
  obtain⟨i,hi,e1⟩:=(h1 _).1 q1
  obtain⟨j,hj,e2⟩:=(h1 _).1 q2
  simp only[List.cons.injEq,and_true] at e1 e2
  subst e1 e2
  refine⟨rfl,a,b,hi,?_,rfl⟩
  false_or_by_contra
  exact(h2 _).1 q3 ⟨a,b,by omega,hj,by omega,rfl⟩
 ·rintro⟨rfl,i,j,hi,hj,rfl⟩
  refine⟨rfl,i,j,rfl,(h1 _).2 ⟨i,hi,rfl⟩,(h1 _).2 ⟨j,by omega,rfl⟩,(h2 _).2 ?_⟩
  rintro⟨u,v,a1,a2,a3,e⟩
  simp only[List.cons.injEq,and_true] at e
  omega
theorem ycd{n:Nat}(hn:1<=n)(hn2:n<=28){rs:List zah}{ns:List ByteArray}(hs:∀ D p x,zrx rs D p x↔z8p z81 ns (eCs n++z9p) 1 D p x){left:Nat}(hl:2<=left):zd6 rs 4096 left (n+1) (DkZ n n)=some (FqZ n,n+3):=by
 obtain⟨l,rfl⟩:∃ l,left=l+1+1:=⟨left - 2,by omega⟩
 have r1:zgw rs (n+1+1) (DkZ n n)=FqZ n:=by
  funext p x
  have hst:=ydc hn hs (D:=DkZ n n) (fun _ _ _=>rfl) p x
  unfold zgw
  by_cases h3:p=3
  ·subst h3
   rw[ya7 ⟨by omega,by omega,by omega⟩]
   unfold FqZ
   rw[if_pos rfl]
   simp only[hst,true_and]
  ·rw[yad h3]
   have:¬ zrx rs (DkZ n n) p x:=by rw[hst];exact fun q=>h3 q.1
   cases DkZ n n p x with
   |some m=>rfl
   |none=>simp[this]
 have r2:zgw rs (n+1+1+1) (FqZ n)=FqZ n:=by
  funext p x
  have hst:=ydc hn hs (D:=FqZ n) (fun p h x=>yad h x) p x
  unfold zgw
  cases hq:FqZ n p x with
  |some m=>rfl
  |none =>
   have:¬ zrx rs (FqZ n) p x:=by
    rw[hst]
    rintro⟨rfl,q⟩
    have:=(fq3 n x).2 q
    unfold InD at this
    rw[hq] at this
    cases this
   simp[this]
 unfold zd6
 rw[r1,if_pos (yco hn2),if_neg]
 ·unfold zd6
  rw[r2,if_pos (yco hn2),if_pos (fun p x q=>q)]
 ·intro q
  have:=q 3 [0,0,0] ((fq3 n _).2 ⟨0,0,by omega,by omega,rfl⟩)
  unfold InD at this
  rw[ya7 ⟨by omega,by omega,by omega⟩] at this
  cases this
theorem yaw{n:Nat}(hn2:n<=28){t:List zar}(ht:zbd t bE=0){rR:List zab}(hb:∀ c∈rR,0 < c.body.length)(p:Nat)(x:zao):zjn (zel t (z9d n) (eCs n++rR)) p x=if p=0/\∃ i,i < n/\x=[i,i+1,0] then some 0 else none:=by
 have h5:∀ k,([0,0,0,0,0]:List Nat).getD k 0 < 5:=by
  intro k
  rcases k with _|_|_|_|_|k <;> simp
 have hrow:∀ i,i < n->zio t (z9d n) (eC i)=⟨0,[i,i+1,0]⟩:=by
  intro i hi
  unfold zio
  rw[zm2 t (z9d n) [] h5]
  have e1:(eC i).head.pred=bE:=rfl
  rw[e1,ht]
  congr 1
  have v1:=(yah i (by omega)).2.2
  have v2:=(yah (i+1) (by omega)).2.2
  show [if za6 (z9e i)=true then _ else(zcy (z9d n) (z9e i)).getD 0,if za6 (z9e (i+1))=true then _ else(zcy (z9d n) (z9e (i+1))).getD 0,0]=_
  rw[v1,v2,yb8 hn2 (by omega),yb8 hn2 (by omega)]
  rfl
 unfold zjn
 congr 1
 apply propext
 unfold zel
 simp only[List.mem_map,List.mem_filter,List.mem_append]
 constructor
 ·rintro⟨f,⟨c,⟨hc|hc,hbo⟩,rfl⟩,q1,q2⟩
  ·obtain⟨i,hi,rfl⟩:=List.mem_map.1 hc
   have hi:=List.mem_range.1 hi
   rw[hrow i hi] at q1 q2
   exact⟨q1.symm,i,hi,q2.symm⟩
  ·have:=hb c hc
   simp[this] at hbo
 ·rintro⟨rfl,i,hi,rfl⟩
  exact⟨_,⟨eC i,⟨Or.inl (List.mem_map.2 ⟨i,by simpa using hi,rfl⟩),by simp[eC]⟩,rfl⟩,by rw[hrow i hi],by rw[hrow i hi]⟩
theorem yeg{n:Nat}(hn:1<=n)(hn2:n<=28){t0:List zar}(h:Parts (eCs n++z9p) t0 z81):zjm (zjl z81 (z9d n) none (eCs n++z9p)) 4096 4096=some (FqZ n,n+3):=by
 have hpl:∀ i (hi:i < (eCs n++z9p).length),zif (za4 ((zdz none i).getD [])) (zaf (eCs n++z9p)[i]).length:=fun i hi=>zp5 (zf5 (h.many _ (List.getElem_mem hi)))
 have hst:∀ s D p x,zrx ((zep z81 (z9d n) none (eCs n++z9p)).filter fun r=>decide (r.stratum=s)) D p x↔z8p z81 (z9d n) (eCs n++z9p) s D p x:=fun s D p x=>z8m h (z9d n) none hpl s D p x
 obtain⟨s1,s2,s3⟩:=yax
 have hne0:¬ ((zep z81 (z9d n) none (eCs n++z9p)).filter fun r=>decide (r.stratum=0))=[]:=by
  rw[z9y]
  exact fun q=>q ⟨⟨⟨false,bPp,[vX,vY]⟩,[⟨false,bE,[vX,vY]⟩]⟩,List.mem_append.2 (Or.inr (by simp[z9p])),by simp,s2⟩
 have hne1:¬ ((zep z81 (z9d n) none (eCs n++z9p)).filter fun r=>decide (r.stratum=0+1))=[]:=by
  rw[z9y]
  exact fun q=>q ⟨⟨⟨false,bQq,[vX,vY]⟩,[⟨false,bNn,[vX]⟩,⟨false,bNn,[vY]⟩,⟨true,bPp,[vX,vY]⟩]⟩,List.mem_append.2 (Or.inr (by simp[z9p])),by simp,s3⟩
 have hnil:∀ s,2<=s->((zep z81 (z9d n) none (eCs n++z9p)).filter fun r=>decide (r.stratum=s))=[]:=by
  intro s hs
  rw[z9y]
  rintro⟨c,hc,hb,e⟩
  have hc:=ybl hc hb
  simp only[z9p,List.mem_cons,List.not_mem_nil,or_false] at hc
  rcases hc with rfl|rfl|rfl|rfl|rfl
  ·simp only[s2] at e;omega
  ·simp only[s2] at e;omega
  ·simp only[s1] at e;omega
  ·simp only[s1] at e;omega
  ·simp only[s3] at e;omega
 have hf:zjn (zel z81 (z9d n) (eCs n++z9p))=DkZ n 0:=by
  funext p x
  rw[yaw hn2 yae.1 (by decide)]
  unfold DkZ
  by_cases h0:p=0
  ·subst h0
   simp
  ·rw[if_neg (fun q=>h0 q.1),if_neg h0]
   have hP:¬ PkZ n 0 x:=by rintro⟨i,j,a1,a2,a3,_⟩;omega
   have h1:¬ (1<=0/\∃ i,i<=n/\x=[i,0,0]):=by rintro⟨q,_⟩;omega
   rw[if_neg hP,if_neg h1]
   split
   ·rfl
   ·split <;> rfl
 unfold zjm
 show(if zqr (zjn (zel z81 (z9d n) (eCs n++z9p))) 4096 then zev (zep z81 (z9d n) none (eCs n++z9p)) 4096 4096 4 0 0 (zjn (zel z81 (z9d n) (eCs n++z9p))) else none)=_
 rw[hf,if_pos (ybh hn2)]
 unfold zev
 rw[if_neg hne0,yba hn hn2 (hst 0) n 0 (4096 - 0) (by omega) (by omega)]
 simp only
 unfold zev
 rw[if_neg hne1,ycd hn hn2 (hst 1) (by omega)]
 simp only
 exact z99 _ _ _ _ _ _ _ fun s' hs=>hnil s' (by omega)
theorem ya8{α:Type}{P Q:α->Prop}[DecidablePred P][DecidablePred Q](hs:∀ u,Q u->P u):∀ {U:List α} {u:α},u∈U->P u->¬ Q u->(U.filter fun v=>decide (Q v)).length < (U.filter fun v=>decide (P v)).length
 |[],_,h,_,_=>by cases h
 |a::U,u,h,hp,hq=>by
  have hle:∀ V:List α,(V.filter fun v=>decide (Q v)).length<=(V.filter fun v=>decide (P v)).length:=by
   intro V
   induction V with
   |nil=>simp
   |cons b V ih =>
    rw[List.filter_cons,List.filter_cons]
    by_cases q:Q b
    ·simp[q,hs b q];exact ih
    ·by_cases p:P b
     ·simp[q,p];omega
     ·simp[q,p];exact ih
  rw[List.filter_cons,List.filter_cons]
  rcases List.mem_cons.1 h with rfl|h
  ·have:=hle U
   simp[hp,hq];omega
  ·have ih:=ya8 hs h hp hq
   by_cases q:Q a
   ·simp[q,hs a q];exact ih
   ·by_cases p:P a
    ·simp[q,p];omega
    ·simp[q,p];exact ih
theorem yan{rs:List zah}{U:List (Nat × zao)}{mr:Nat}(hU:U.length<=mr)(hcl:∀ D:DB,(∀ p x,InD D p x->(p,x)∈U)->∀ p x,zrx rs D p x->(p,x)∈U):∀(left k:Nat) (D:DB),(∀ p x,InD D p x->(p,x)∈U)->(U.filter fun u=>decide (¬ InD D u.1 u.2)).length < left->∃ E e,zd6 rs mr left k D=some (E,e)/\(∀ p x,InD D p x->InD E p x)/\(∀ p x,InD E p x->(p,x)∈U)/\∀ p x,zrx rs E p x->InD E p x
 |0,_,_,_,h=>by omega
 |left+1,k,D,hD,h=>by
  have hR:∀ p x,InD (zgw rs (k+1) D) p x->(p,x)∈U:=fun p x q=>by
   rcases(z90 _ _ _ _ _).1 q with q|q
   ·exact hD p x q
   ·exact hcl D hD p x q
  unfold zd6
  rw[if_pos (z9q hR hU)]
  by_cases hs:∀ p x,InD (zgw rs (k+1) D) p x->InD D p x
  ·rw[if_pos hs]
   refine⟨_,_,rfl,fun p x q=>(z90 _ _ _ _ _).2 (Or.inl q),hR,fun p x q=>?_⟩
   have e:zgw rs (k+1) D=D:=by
    funext p x
    unfold zgw
    cases hq:D p x with
    |some m=>rfl
    |none =>
     have:¬ zrx rs D p x:=fun z=>by
      have:=hs p x ((z90 _ _ _ _ _).2 (Or.inr z))
      unfold InD at this
      rw[hq] at this
      cases this
     simp[this]
   rw[e] at q
   exact(z90 _ _ _ _ _).2 (Or.inr q)
  ·rw[if_neg hs]
   have:∃ p x,InD (zgw rs (k+1) D) p x/\¬ InD D p x:=by
    false_or_by_contra
    rename_i hn
    exact hs fun p x q=>by
     false_or_by_contra
     rename_i hn2
     exact hn ⟨p,x,q,hn2⟩
   obtain⟨p,x,q1,q2⟩:=this
   have hlt:=ya8 (P:=fun u:Nat × zao=>¬ InD D u.1 u.2) (Q:=fun u=>¬ InD (zgw rs (k+1) D) u.1 u.2) (fun u hu q=>hu ((z90 _ _ _ _ _).2 (Or.inl q))) (hR p x q1) q2 (fun q=>q q1)
   obtain⟨E,e,e1,e2,e3,e4⟩:=yan hU hcl left (k+1) (zgw rs (k+1) D) hR (by omega)
   exact⟨E,e,e1,fun p x q=>e2 p x ((z90 _ _ _ _ _).2 (Or.inl q)),e3,e4⟩
theorem ybq:zbd z9a bE=0/\zbd z9a bPp=1/\zds z9a bPp=0:=by decide +kernel
theorem yat{n:Nat}(ns:List ByteArray)(D:DB)(p:Nat)(x:zao):z8p z9a ns (eCs n++yaf) 0 D p x↔p=1/\∃ a b,x=[a,b,0]/\(InD D 0 [a,b,0]∨∃ c,InD D 1 [a,c,0]/\InD D 1 [c,b,0]):=by
 obtain⟨f0,f1,s1⟩:=ybq
 have hin:∀ c∈yaf,c∈eCs n++yaf:=fun c hc=>List.mem_append.2 (Or.inr hc)
 constructor
 ·rintro⟨c,hc,hb,hs,hp,σ,d1,d2,d3⟩
  have hc:c∈yaf:=by
   rcases List.mem_append.1 hc with hc|hc
   ·obtain⟨i,_,rfl⟩:=List.mem_map.1 hc
    simp[eC] at hb
   ·exact hc
  simp only[yaf,List.mem_cons,List.not_mem_nil,or_false] at hc
  rcases hc with rfl|rfl
  ·have:=d1 _ (List.mem_singleton.2 rfl) rfl
   simp only[f0,f1,z9w] at this hp d3
   exact⟨hp,_,_,d3,Or.inl this⟩
  ·have h1:=d1 ⟨false,bPp,[vX,vY]⟩ (by simp) rfl
   have h2:=d1 ⟨false,bPp,[vY,vZ]⟩ (by simp) rfl
   simp only[f1,z9w,yd0,ydz] at h1 h2 hp d3
   exact⟨hp,_,_,d3,Or.inr ⟨_,h1,h2⟩⟩
 ·rintro⟨rfl,a,b,rfl,h|⟨c,h1,h2⟩⟩
  ·refine⟨⟨⟨false,bPp,[vX,vY]⟩,[⟨false,bE,[vX,vY]⟩]⟩,hin _ (by simp[yaf]),by simp,s1,f1.symm,sgZ a b 0,fun l hl _=>?_,fun l hl hn=>?_,?_⟩
   ·rw[List.mem_singleton.1 hl,f0,z9w,ycr,ycs];exact h
   ·rw[List.mem_singleton.1 hl] at hn;cases hn
   ·rw[z9w,ycr,ycs]
  ·refine⟨⟨⟨false,bPp,[vX,vZ]⟩,[⟨false,bPp,[vX,vY]⟩,⟨false,bPp,[vY,vZ]⟩]⟩,hin _ (by simp[yaf]),by simp,s1,f1.symm,sgZ a c b,fun l hl _=>?_,fun l hl hn=>?_,?_⟩
   ·simp only[List.mem_cons,List.not_mem_nil,or_false] at hl
    rcases hl with rfl|rfl
    ·rw[f1,z9w,ycr,ycs];exact h1
    ·rw[f1,yd0,ycs,yez];exact h2
   ·simp only[List.mem_cons,List.not_mem_nil,or_false] at hl
    rcases hl with rfl|rfl <;> cases hn
   ·rw[ydz,ycr,yez]
noncomputable def twU(n:Nat):List (Nat × zao):=(chU n).filter fun u=>decide ((u.1=0/\∃ i,i < n/\u.2=[i,i+1,0])∨(u.1=1/\PkZ n n u.2))
theorem yal{n p:Nat}{x:zao}:(p,x)∈twU n↔(p=0/\∃ i,i < n/\x=[i,i+1,0])∨(p=1/\PkZ n n x):=by
 unfold twU
 rw[List.mem_filter]
 simp only[decide_eq_true_eq]
 constructor
 ·exact fun q=>q.2
 ·intro q
  refine⟨?_,q⟩
  rcases q with ⟨rfl,i,hi,rfl⟩|⟨rfl,i,j,a1,a2,a3,rfl⟩
  ·exact z9o (by omega) (by omega) (by omega)
  ·exact z9o (by omega) (by omega) (by omega)
theorem yem{n:Nat}(hn2:n<=28){t0:List zar}(h:Parts (eCs n++yaf) t0 z9a):∃ E e,zjm (zjl z9a (z9d n) none (eCs n++yaf)) 4096 4096=some (E,e)/\∀ x,InD E 1 x↔PkZ n n x:=by
 have hpl:∀ i (hi:i < (eCs n++yaf).length),zif (za4 ((zdz none i).getD [])) (zaf (eCs n++yaf)[i]).length:=fun i hi=>zp5 (zf5 (h.many _ (List.getElem_mem hi)))
 have hst:∀ s D p x,zrx ((zep z9a (z9d n) none (eCs n++yaf)).filter fun r=>decide (r.stratum=s)) D p x↔z8p z9a (z9d n) (eCs n++yaf) s D p x:=fun s D p x=>z8m h (z9d n) none hpl s D p x
 obtain⟨f0,f1,s1⟩:=ybq
 have hne0:¬ ((zep z9a (z9d n) none (eCs n++yaf)).filter fun r=>decide (r.stratum=0))=[]:=by
  rw[z9y]
  exact fun q=>q ⟨⟨⟨false,bPp,[vX,vY]⟩,[⟨false,bE,[vX,vY]⟩]⟩,List.mem_append.2 (Or.inr (by simp[yaf])),by simp,s1⟩
 have hnil:∀ s,1<=s->((zep z9a (z9d n) none (eCs n++yaf)).filter fun r=>decide (r.stratum=s))=[]:=by
  intro s hs
  rw[z9y]
  rintro⟨c,hc,hb,e⟩
  rcases List.mem_append.1 hc with hc|hc
  ·obtain⟨i,_,rfl⟩:=List.mem_map.1 hc
   simp[eC] at hb
  ·simp only[yaf,List.mem_cons,List.not_mem_nil,or_false] at hc
   rcases hc with rfl|rfl
   ·simp only[s1] at e;omega
   ·simp only[s1] at e;omega
 have hF:∀ p x,InD (zjn (zel z9a (z9d n) (eCs n++yaf))) p x↔p=0/\∃ i,i < n/\x=[i,i+1,0]:=by
  intro p x
  unfold InD
  rw[yaw hn2 f0 (by decide)]
  exact ybz
 have hF2:∀ p x,InD (zjn (zel z9a (z9d n) (eCs n++yaf))) p x->(p,x)∈twU n:=fun p x q=>yal.2 (Or.inl ((hF p x).1 q))
 have hlen:(twU n).length<=4 * (29 * 29):=by
  have h1:(twU n).length<=(chU n).length:=List.length_filter_le _ _
  have h2:(chU n).length=4 * ((n+1) * (n+1)):=by
   unfold chU
   simp[List.length_flatMap,List.map_const']
   omega
  have:(n+1) * (n+1)<=29 * 29:=Nat.mul_le_mul (by omega) (by omega)
  omega
 have hcl:∀ D:DB,(∀ p x,InD D p x->(p,x)∈twU n)->∀ p x,zrx ((zep z9a (z9d n) none (eCs n++yaf)).filter fun r=>decide (r.stratum=0)) D p x->(p,x)∈twU n:=by
  intro D hD p x q
  have hD0:∀ x,InD D 0 x->∃ i,i < n/\x=[i,i+1,0]:=fun x z=>by
   rcases yal.1 (hD 0 x z) with ⟨_,q⟩|⟨q,_⟩
   ·exact q
   ·cases q
  have hD1:∀ x,InD D 1 x->PkZ n n x:=fun x z=>by
   rcases yal.1 (hD 1 x z) with ⟨q,_⟩|⟨_,q⟩
   ·cases q
   ·exact q
  rw[hst,yat] at q
  obtain⟨rfl,a,b,rfl,z|⟨c,z1,z2⟩⟩:=q
  ·obtain⟨i,hi,e⟩:=hD0 _ z
   simp only[List.cons.injEq,and_true] at e
   obtain⟨rfl,rfl⟩:=e
   exact yal.2 (Or.inr ⟨rfl,_,_,by omega,by omega,by omega,rfl⟩)
  ·obtain⟨i,j,a1,a2,a3,e1⟩:=hD1 _ z1
   obtain⟨u,v,b1,b2,b3,e2⟩:=hD1 _ z2
   simp only[List.cons.injEq,and_true] at e1 e2
   obtain⟨rfl,rfl⟩:=e1
   obtain⟨rfl,rfl⟩:=e2
   exact yal.2 (Or.inr ⟨rfl,_,_,by omega,by omega,by omega,rfl⟩)
 obtain⟨E,e,e1,e2,e3,e4⟩:=yan (mr:=4096) (by omega) hcl (4096 - 0) 0 _ hF2 (by
  have:=List.length_filter_le (fun u:Nat × zao=>decide (¬ InD (zjn (zel z9a (z9d n) (eCs n++yaf))) u.1 u.2)) (twU n)
  omega)
 refine⟨E,e,?_,fun x=>⟨fun q=>?_,?_⟩⟩
 ·unfold zjm
  show(if zqr (zjn (zel z9a (z9d n) (eCs n++yaf))) 4096 then zev (zep z9a (z9d n) none (eCs n++yaf)) 4096 4096 2 0 0 (zjn (zel z9a (z9d n) (eCs n++yaf))) else none)=_
  rw[if_pos (z9q hF2 (by omega))]
  unfold zev
  rw[if_neg hne0,e1]
  simp only
  exact z99 _ _ _ _ _ _ _ fun s' hs=>hnil s' (by omega)
 ·rcases yal.1 (e3 1 x q) with ⟨q,_⟩|⟨_,q⟩
  ·cases q
  ·exact q
 ·rintro⟨i,j,a1,a2,_,rfl⟩
  have hall:∀ d i,i+1+d<=n->InD E 1 [i,i+1+d,0]:=by
   intro d
   induction d with
   |zero =>
    intro i hi
    refine e4 1 _ ((hst 0 E 1 _).2 ((yat _ _ _ _).2 ⟨rfl,i,i+1,rfl,Or.inl (e2 0 _ ((hF 0 _).2 ⟨rfl,i,by omega,rfl⟩))⟩))
   |succ d ih =>
    intro i hi
    have h1:=ih i (by omega)
    have h2:InD E 1 [i+1+d,i+1+d+1,0]:=e4 1 _ ((hst 0 E 1 _).2 ((yat _ _ _ _).2 ⟨rfl,_,_,rfl,Or.inl (e2 0 _ ((hF 0 _).2 ⟨rfl,i+1+d,by omega,rfl⟩))⟩))
    exact e4 1 _ ((hst 0 E 1 _).2 ((yat _ _ _ _).2 ⟨rfl,_,_,rfl,Or.inr ⟨_,h1,h2⟩⟩))
  have:=hall (j - i - 1) i (by omega)
  rwa [show i+1+(j - i - 1)=j by omega] at this
end Go.Proofs.YteampbddflhngabGreat
