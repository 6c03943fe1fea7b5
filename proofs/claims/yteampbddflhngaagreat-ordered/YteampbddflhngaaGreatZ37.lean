import Derived.Test.YteampbddflhngaaGreatZ26
import Derived.Test.YteampbddflhngaaGreatZ36
namespace Go.Proofs.YteampbddflhngaaGreat
set_option linter.all false
set_option maxRecDepth 100000
set_option maxHeartbeats 4000000
open Go.RowKit
section
section
variable {B:Nat} {w w3:World} {wb:Nat} {M:OM} {V:OV}
theorem mw.more{b:List fQ}{o:pI}(h:mw b o){a:List fQ}(d:∀x∈b,∃y∈a,y.1=x.1/\y.2.2.length=x.2.2.length):mw a o:=by
 match o,h with
 |none,_=>trivial
 |some (g,f,n,m),⟨x,k,i,l⟩=>
  obtain⟨y,c,j,e⟩:=d x k;exact⟨y,c,by rw[j,i],by rw[e];exact l⟩
theorem QX.addI(h:QX B w wb M V){ga gb:Nat}{l:List Int}{v1 v2:Value}(m:ze (wb::(V.inv.ownBlock.toList++V.iwv.ownBlock.toList)) w w3)(a:Q6 w3 wb (kY M {V with inv:=v1,iwv:=v2}) 35)(A:w3.ownsRow B 24 1 v1 (M.ins.length+1) (xv M.ins++[sl ga l.length]))(D:w3.ownsRow B 24 1 v2 (M.ins.length+1) (uz M.ins++[sl gb l.length]))(k:v1.ownBlock=V.inv.ownBlock∨∃g,v1.ownBlock=some g/\w.heap.size<=g)(j:v2.ownBlock=V.iwv.ownBlock∨∃g,v2.ownBlock=some g/\w.heap.size<=g)(z:∀b,v1.ownBlock=some b->v2.ownBlock≠some b)(S:w.heap.size<=ga)(Q:w.heap.size<=gb)(P:ga≠gb)(R:Q6 w3 ga (xX l) 3)(O:Q6 w3 gb (xX l) 3)(N:l.length<=1048576):QX B w3 wb {M with ins:=M.ins++[(ga,gb,l)]} {V with inv:=v1,iwv:=v2}/\Below B w w3:=by
 have K:∀b∈wb::(V.inv.ownBlock.toList++V.iwv.ownBlock.toList),b∈yL wb V M.ins:=fun b a=>by
  simp only[yL,zx,zI] at a ⊢;rcases a with a|a|a<;>simp[a]
 have i:∀b∈yL wb {V with inv:=v1,iwv:=v2} (M.ins++[(ga,gb,l)]),b∈yL wb V M.ins∨w.heap.size<=b:=fun b a=>by
  simp only[yL,uQ,xI,List.map_nil,zx,zI,ff,or_false] at a ⊢;rcases a with a|a|a|a|a|a|a|(a|a)|a|a
  ·exact zf (zf a)
  ·exact zf (zb (zf a))
  ·exact zf (zb (zb (zf a)))
  ·exact zf (zb (zb (zb (zf a))))
  ·rcases lB (k.imp_right zb) a with q|q
   ·exact zf (zb (zb (zb (zb (zf q)))))
   ·exact zb q
  ·rcases lB (j.imp_right zb) a with q|q
   ·exact zf (zb (zb (zb (zb (zb (zf q))))))
   ·exact zb q
  ·exact zf (zb (zb (zb (zb (zb (zb (zf a)))))))
  ·exact zf (zb (zb (zb (zb (zb (zb (zb (zf a))))))))
  ·exact zb (by omega)
  ·exact zf (zb (zb (zb (zb (zb (zb (zb (zb a))))))))
  ·exact zb (by omega)
 have G:=h.rest (M':={M with ins:=M.ins++[(ga,gb,l)]}) m K i;have t:∀{T:TypeId},35≠T->24≠T->NT w T (wb::(V.inv.ownBlock.toList++V.iwv.ownBlock.toList)):=fun q J=>NT.cons h.box q ((NT.own h.oin J).app (NT.own h.oiw J));have y:=qq.1 h.dis3;have u:=qq.1 y.2.1;have C:∀b,V.orv.ownBlock=some b->b∉wb::(V.inv.ownBlock.toList++V.iwv.ownBlock.toList):=fun b F i=>by
  have r:b∈V.orv.ownBlock.toList:=by simp[F]
  rcases zx.1 i with rfl|i
  ·exact uy h.oor h.box (by decide) F rfl
  ·rcases zI.1 i with i|i
   ·exact y.2.2 b i b (zI.2 (zb r)) rfl
   ·exact u.2.2 b i b r rfl
 have s:∀x∈M.ins,x.1<w.heap.size/\x.2.1<w.heap.size:=fun x f=>⟨(h.ints x f).one.lt,(h.ints x f).two.lt⟩;have p:∀b∈V.orv.ownBlock.toList,b<w.heap.size:=fun b a=>xK h.oor (yt a);have n:∀v:Value,v.ownBlock.toList.Nodup:=fun v=>by cases v.ownBlock<;>simp
 refine⟨⟨h.low,a,yJ h.ops m (t (by decide) (by decide)),yJ h.ors m (t (by decide) (by decide)),yJ h.reg m (t (by decide) (by decide)),?_,?_,yT h.oor m C,fun x f=>?_,?_,?_,fun o L=>(h.win o L).more fun x f=>⟨x,zI.2 (zf f),rfl,rfl⟩,h.num,G.1,G.2⟩,h.down m K⟩
 ·show World.ownsRow _ _ _ _ v1 (M.ins++[(ga,gb,l)]).length (xv (M.ins++[(ga,gb,l)]));rw[show xv (M.ins++[(ga,gb,l)])=xv M.ins++[sl ga l.length] from by simp[xv],yp];exact A
 ·show World.ownsRow _ _ _ _ v2 (M.ins++[(ga,gb,l)]).length (uz (M.ins++[(ga,gb,l)]));rw[show uz (M.ins++[(ga,gb,l)])=uz M.ins++[sl gb l.length] from by simp[uz],yp];exact D
 ·rcases zI.1 f with f|f
  ·exact(h.ints x f).save m (t (by decide) (by decide))
  ·rw[xF.1 f];have:=h.size;exact⟨⟨by show B<=ga;omega,by show B<=gb;omega⟩,R,O,N⟩
 ·refine qq.2 ⟨n _,qq.2 ⟨n _,u.2.1,fun b a c d e=>?_⟩,fun b a c d e=>?_⟩
  ·subst e;rcases lB (j.imp_right zb) a with q|q
   ·exact u.2.2 b q b d rfl
   ·have:=p b d;omega
  ·subst e;rcases zI.1 d with d|d
   ·exact z b (yt a) (yt d)
   ·rcases lB (k.imp_right zb) a with q|q
    ·exact y.2.2 b q b (zI.2 (zb d)) rfl
    ·have:=p b d;omega
 ·have U:=h.disI;rw[uQ,uQ];simp only[xI,List.map_nil];have E:=qq.1 U;have H:∀b∈M.ins.map (·.1),b<w.heap.size:=fun b a=>by obtain⟨x,f,rfl⟩:=zy.1 a;exact(s x f).1
  have I:∀b∈M.ins.map (·.2.1),b<w.heap.size:=fun b a=>by obtain⟨x,f,rfl⟩:=zy.1 a;exact(s x f).2
  refine qq.2 ⟨qq.2 ⟨E.1,by simp,fun b a c d e=>?_⟩,qq.2 ⟨E.2.1,by simp,fun b a c d e=>?_⟩,fun b a c d e=>?_⟩
  ·have:=H b a;simp at d;omega
  ·have:=I b a;simp at d;omega
  ·subst e;rcases zI.1 a with a|a<;>rcases zI.1 d with d|d
   ·exact E.2.2 b a b d rfl
   ·have:=H b a;simp at d;omega
   ·have:=I b d;simp at a;omega
   ·simp at a d;omega
theorem oK(l:List Int)(i:Nat)(c:Int):(xX l).setIfInBounds i (ι c)=xX (l.set i c):=by simp[xX,List.map_set]
theorem QX.write(h:QX B w wb M V){k:Nat}(n:k<M.ins.length)(i:Nat)(c:Int):QX B ((w.setCell ⟨M.ins[k].1,i,none⟩ (ι c)).setCell ⟨M.ins[k].2.1,i,none⟩ (ι c)) wb {M with ins:=M.ins.set k (M.ins[k].1,M.ins[k].2.1,M.ins[k].2.2.set i c)} V/\Below B w ((w.setCell ⟨M.ins[k].1,i,none⟩ (ι c)).setCell ⟨M.ins[k].2.1,i,none⟩ (ι c)):=by
 obtain⟨x,a⟩:∃x,x=M.ins[k]:=⟨_,rfl⟩;rw[←a];have p:x∈M.ins:=by rw[a];exact zs n
 have E:(M.ins.set k (x.1,x.2.1,x.2.2.set i c)).map (·.1)=M.ins.map (·.1):=tA n (by rw[a]);have C:(M.ins.set k (x.1,x.2.1,x.2.2.set i c)).map (·.2.1)=M.ins.map (·.2.1):=tA n (by rw[a]);have H:xv (M.ins.set k (x.1,x.2.1,x.2.2.set i c))=xv M.ins:=tA n (by rw[a];simp);have I:uz (M.ins.set k (x.1,x.2.1,x.2.2.set i c))=uz M.ins:=tA n (by rw[a];simp);have K:yL wb V (M.ins.set k (x.1,x.2.1,x.2.2.set i c))=yL wb V M.ins:=by unfold yL;rw[E,C]
 have f:ze [x.1,x.2.1] w ((w.setCell ⟨x.1,i,none⟩ (ι c)).setCell ⟨x.2.1,i,none⟩ (ι c)):=((ze.set w x.1 i _).more (fun b m=>by simp at m;simp[m])).trans ((ze.set _ x.2.1 i _).more (fun b m=>by simp at m;simp[m]));have D:∀b∈[x.1,x.2.1],b∈yL wb V M.ins:=fun b m=>by
  simp only[yL,zx,zI,zy,ff,or_false] at m ⊢;rcases m with rfl|rfl
  ·exact zb (zb (zb (zb (zb (zb (zb (zf ⟨x,p,rfl⟩)))))))
  ·exact zb (zb (zb (zb (zb (zb (zb (zb ⟨x,p,rfl⟩)))))))
 have A:=h.rest (M':={M with ins:=M.ins.set k (x.1,x.2.1,x.2.2.set i c)}) (V':=V) f D (fun b q=>zf (by rw[K] at q;exact q));have s:=h.ints x p;have r:∀{T:TypeId},3≠T->NT w T [x.1,x.2.1]:=fun q=>NT.cons s.one q (NT.cons s.two q NT.nil);have u:=qq.1 h.disI;have t:x.1≠x.2.1:=u.2.2 _ (zy.2 ⟨x,p,rfl⟩) _ (zy.2 ⟨x,p,rfl⟩);refine⟨⟨h.low,h.box.save f ((r (by decide)).not h.box),yJ h.ops f (r (by decide)),yJ h.ors f (r (by decide)),yJ h.reg f (r (by decide)),?_,?_,yJ h.oor f (r (by decide)),fun y z=>?_,h.dis3,?_,fun o F=>(h.win o F).more fun y z=>?_,h.num,A.1,A.2⟩,h.down f D⟩
 ·show World.ownsRow _ _ _ _ V.inv (M.ins.set k _).length (xv (M.ins.set k _));rw[H,fA];exact yJ h.oin f (r (by decide))
 ·show World.ownsRow _ _ _ _ V.iwv (M.ins.set k _).length (uz (M.ins.set k _));rw[I,fA];exact yJ h.oiw f (r (by decide))
 ·obtain⟨j,v,rfl⟩:=vx.1 z;rw[lC];have g:j<M.ins.length:=by simpa using v
  split
  ·refine⟨s.low,?_,?_,by simpa using s.len⟩
   ·have:=(s.one.set i (ι c)).set_ne t i (ι c);rw[oK] at this;exact this
   ·have:=(s.two.set_ne (Ne.symm t) i (ι c)).set i (ι c);rw[oK] at this;exact this
  ·rename_i d;have l:=h.ints _ (zs g);have L:M.ins[j].1≠x.1:=fun e=>d (by
    have:=(List.getElem_inj (xs:=M.ins.map (·.1)) (i:=k) (j:=j) (h₀:=by simpa using n) (h₁:=by simpa using g) u.1).1 (by simp only[uM];rw[←a,e]);exact this)
   have G:M.ins[j].2.1≠x.2.1:=fun e=>d (by
    have:=(List.getElem_inj (xs:=M.ins.map (·.2.1)) (i:=k) (j:=j) (h₀:=by simpa using n) (h₁:=by simpa using g) u.2.1).1 (by simp only[uM];rw[←a,e]);exact this)
   have N:M.ins[j].1≠x.2.1:=u.2.2 _ (zy.2 ⟨_,zs g,rfl⟩) _ (zy.2 ⟨x,p,rfl⟩);have J:x.1≠M.ins[j].2.1:=u.2.2 _ (zy.2 ⟨x,p,rfl⟩) _ (zy.2 ⟨_,zs g,rfl⟩);exact⟨l.low,l.one.save f (by simp[L,N]),l.two.save f (by simp[G,Ne.symm J]),l.len⟩
 ·show((M.ins.set k _).map (·.1)++(M.ins.set k _).map (·.2.1)).Nodup;rw[E,C];exact h.disI
 ·obtain⟨j,v,rfl⟩:=vx.1 z;by_cases d:k=j
  ·subst d;exact⟨_,vx.2 ⟨k,by simpa using v,rfl⟩,by simp[a],by simp[a]⟩
  ·exact⟨_,vx.2 ⟨j,by simpa using v,rfl⟩,by simp[d],by simp[d]⟩
end
end
section
open Go.Proofs.Tryz
theorem EN{α β:Type}{P:α->β->Prop}:∀(l:List α),(∀x∈l,∃y,P x y)->∃r:List β,r.length=l.length/\∀k (a:k<l.length) (b:k<r.length),P l[k] r[k]
 |[],_=>⟨[],rfl,fun k a=>by simp at a⟩
 |x::l,h=>by
  obtain⟨y,c⟩:=h x (by simp);obtain⟨r,a,b⟩:=EN l (fun z e=>h z (by simp[e]));refine⟨y::r,by simp[a],fun k d f=>?_⟩;cases k with
  |zero=>exact c
  |succ k=>exact b k (by simpa using d) (by simpa using f)
section
variable {B:Nat} {w:World} {wb:Nat} {M:OM} {V:OV}
theorem QX.os(h:QX B w wb M V):∃b:List (Option (List Int)),b.length=(M.ord.map jK).length/\∀k (r:k<(M.ord.map jK).length) (s:k<b.length),uF w (M.ord.map jK)[k] b[k]/\(b[k].getD []).length<=1048576:=by
 refine EN (P:=fun v o=>uF w v o/\(o.getD []).length<=1048576) _ fun v l=>?_;obtain⟨o,e,rfl⟩:=zy.1 l;have i:=h.win o e;match o,i with
 |none,_=>exact⟨none,rfl,zv _⟩
 |some (g,f,n,p),⟨x,m,j,q⟩=>
  subst j;have d:=h.ints x m;have a:((x.2.2.drop f).take n).length=n:=by simp;omega
  refine⟨some ((x.2.2.drop f).take n),⟨x.1,f,n+p,by rw[a];rfl,d.one.lt,fun k t=>?_⟩,by have:=d.len;rw[ur,a];omega⟩;rw[d.one.rules.1];have c:f+k<x.2.2.length:=by omega
  simp[xX,c]
structure et (w:World) (orv:Value) (nb:Bool) (os:Option (List (Option (List Int)))):Prop where
 len:(os.getD []).length<=2000000
 each:∀o∈os.getD [],(o.getD []).length<=2000000
 hand:∀W,μ w W->Calls Tryz.prog 34 #[orv,.bool nb] W fun e w'=>∃hv,e=.returned hv/\Hid (jC w' hv os/\∀W2,μ w' W2->Calls Tryz.prog 36 #[hv,orv,.bool nb] W2 fun e w3=>e=ε (.bool true)/\Hid (μ W2 w3))/\Hid (μ W w')
 ord:∀W,μ w W->∀mb cs t lo,jY lo W mb cs t->(∀c∈cs,c.body.length<=999/\yU (zk c)<=1000/\(zw c).length<=5/\∀l∈zk c,∀t∈l.args,0<t.size)->cs.length<=1000->Calls Tryz.prog 75 #[(π mb),orv,.bool nb] W fun e w'=>e=ε (.bool (vi cs os))/\μ W w'
theorem QX.hand(h:QX B w wb M V)(P:M.ord.length<=1048577):∃b,et w V.orv M.none b:=by
 cases S:M.none with
 |true=>
  exact⟨none,zv _,(fun o c=>by cases c),fun W _=>(Lh W _).mono fun e H ⟨x,D⟩=>by
   subst D;exact⟨_,x,⟨rfl,fun A _=>(Na A _ _).mono fun e T ⟨L,R⟩=>by subst R;exact⟨L,zo _ _⟩⟩,zo _ _⟩,fun W _ F G t K _ _ _=>(Ka W _ _).mono fun e H ⟨x,D⟩=>by subst D;exact⟨x,zo _ _⟩⟩
 |false=>
  obtain⟨b,y,i⟩:=h.os;have c:=h.oor;rw[show M.ord.length=(M.ord.map jK).length from by simp] at c P;have z:∀v∈M.ord.map jK,v.oneCell'=true:=fun v Q=>by
   obtain⟨o,_,rfl⟩:=zy.1 Q;match o with
   |none=>rfl
   |some (g,f,n,U)=>rfl
  generalize M.ord.map jK=l at *;have p:∀o∈b,(o.getD []).length<=2000000:=fun o J=>by
   obtain⟨k,u,rfl⟩:=vx.1 J;have:=(i k (by omega) u).2;omega
  refine⟨some b,by show b.length<=_;omega,p,fun W d=>?_,fun W d F G t K O C E=>?_⟩
  ·refine(F8 W B V.orv l (zB c d) z (by omega)).mono ?_;rintro e H ⟨N,rfl,s,I⟩;have m:=Q9 d I.out;refine⟨_,rfl,⟨⟨_,0,_,by rw[y],s.out.1.lt,fun k u=>?_⟩,fun A a=>?_⟩,I⟩
   ·refine⟨l[k]'(by omega),?_,((i k (by omega) u).1).below m⟩;rw[s.out.1.rules.1];have:k<l.length:=by omega
    simp[List.getElem?_append_left this]
   ·have j:=Q9 m a;exact Gl A B V.orv l b _ N (zB c j) (s.out.1.below a) (s.out.2.below a) y (fun k q r=>⟨((i k q r).1).below j,by have:=(i k q r).2;omega⟩) (by omega)
  ·exact KI W F V.orv G t l b O (zB c d) y.symm (fun k q r=>((i k q r).1).below d) p C E
end
def mK(B:Nat)(w:World)(wb:Nat)(M:OM)(V:OV)(e:Ending)(w':World):Prop:=e=ε (.bool true)/\Hid (∃a b,a.length<=M.rs.length+1/\QX B w' wb {M with rs:=a} {V with rsv:=b})/\Hid (Below B w w')/\Hid (ze (wb::V.rsv.ownBlock.toList) w w')
theorem mK.kept{B:Nat}{w w':World}{wb:Nat}{M:OM}{V:OV}(h:QX B w wb M V)(a:μ w w'):mK B w wb M V (ε (.bool true)) w':=⟨rfl,⟨M.rs,V.rsv,by omega,h.below a⟩,a.mono h.size,ze.of a⟩
theorem iP(B:Nat)(w:World)(wb:Nat)(M:OM)(V:OV)(h:QX B w wb M V){os:Option (List (Option (List Int)))}(s:et w V.orv M.none os)(x m:Nat)(c l n:Int)(E:n=8∨n=9∨n=10)(y:Hid (∀W p,μ w W->jC W p os->Calls prog 35 #[(π x),p,ι c,ι l] W fun e i=>e=ε (.tuple #[.pointer none,ι n])/\Hid (μ W i)))(r:Hid (∀W,μ w W->Calls prog 37 #[(π m),V.orv,.bool M.none,ι c,ι l] W fun e i=>e=ε (.tuple #[.pointer none,ι n])/\Hid (μ W i))):
  Calls prog 17 #[(π wb),.agg #[(π x),(π m)],V.orv,.bool M.none,ι c,ι l] w fun e i=>mK B w wb M V e i:=by
 have G:=Q5 s.hand;have C:Hid (∀W,μ w W->mK B w wb M V (ε (.bool true)) W):=fun W=>mK.kept h;clear h s;generalize V.orv=D at *;generalize M.none=K at *;rcases E with rfl|rfl|rfl
 all_goals
  go_enter func17,ntmps17;go_upto_region 1 with fail
  have j:Hid (μ w (w.alloc (.cells #[(π x),(π m)] 40))):=(zo _ _).alloc (zg _) _;have d:=Q5 (Q6.new w #[(π x),(π m)] 40);generalize w.alloc (.cells #[(π x),(π m)] 40)=H at *;go_wp2_with (first|(go_at_call 34;refine(G.out _ j.out).mono ?_;rintro e L ⟨p,rfl,v,b⟩;have k:=Q5 (Q9 j.out b.out);obtain⟨I,_,F⟩:=(d.out.below b.out).boxed)|(go_at_call 35;refine(y.out _ _ k.out v.out.1).mono ?_;rintro e J ⟨rfl,a⟩;have o:=Q5 (Q9 k.out a.out);obtain⟨z,_⟩:=((d.out.below b.out).below a.out).rules;have u:=((d.out.below b.out).below a.out).lt)|(go_at_call 36;refine(v.out.2 _ a.out).mono ?_;rintro e O ⟨rfl,f⟩;have g:=Q5 (Q9 o.out f.out);obtain⟨A,_⟩:=(((d.out.below b.out).below a.out).below f.out).rules;have t:=(((d.out.below b.out).below a.out).below f.out).lt)|(go_at_call 37;refine(r.out _ g.out).mono ?_;rintro e N ⟨rfl,q⟩))
  go_ret;exact C.out _ (Q9 g.out q.out)
theorem O6(B:Nat)(w:World)(wb:Nat)(M:OM)(V:OV)(h:QX B w wb M V){os:Option (List (Option (List Int)))}(ho:et w V.orv M.none os)(x m:Nat)(f qw:Int)(L k:Nat)(hn:M.rs.length<=1048576)(HR:Hid (∀W hv,μ w W->jC W hv os->Calls prog 35 #[(π x),hv,ι f,ι qw] W fun e z=>∃O,e=ε (.tuple #[(π O),ι 0])/\Hid (∃m S nv rv,Q6 z O #[S,nv,rv,ι L,ι k,ι m] 156/\0<=m)/\Hid (μ W z)))(u:Hid (∀W,μ w W->Calls prog 37 #[(π m),V.orv,.bool M.none,ι f,ι qw] W fun e z=>∃I,e=ε (.tuple #[(π I),ι 0])/\Hid (∃R C,Q6 z I #[.slice R L C,ι k] 54)/\Hid (μ W z))):
  Calls prog 17 #[(π wb),.agg #[(π x),(π m)],V.orv,.bool M.none,ι f,ι qw] w fun e z=>mK B w wb M V e z:=by
 obtain⟨i0,hi,Y,af,Z⟩:=info_parts Qt;have HH:=Q5 ho.hand;have HW:=Q5 h;have G:=h.size;obtain⟨aj,y⟩:∃v,v=V.orv:=⟨_,rfl⟩;obtain⟨nb,s⟩:∃v,v=M.none:=⟨_,rfl⟩;rw[←y,←s] at HH u;rw[←y,←s];clear h ho y s;go_enter func17,ntmps17;go_upto_region 1 with fail
 have P:Hid (μ w (w.alloc (.cells #[(π x),(π m)] 40))):=(zo _ _).alloc (zg _) _;have d:=Q5 (Q6.new w #[(π x),(π m)] 40);generalize w.alloc (.cells #[(π x),(π m)] 40)=wX at *;go_upto_region 9 with (first|(go_at_call 34;refine(HH.out _ P.out).mono ?_;rintro e w1 ⟨hv,rfl,HV,b⟩;have n:=Q5 (Q9 P.out b.out);obtain⟨xc,_,J⟩:=(d.out.below b.out).boxed)|(go_at_call 35;refine(HR.out _ _ n.out HV.out.1).mono ?_;rintro e w2 ⟨O,rfl,F,a⟩;have q:=Q5 (Q9 n.out a.out);obtain⟨X,_⟩:=((d.out.below b.out).below a.out).rules;have H:=((d.out.below b.out).below a.out).lt)|(go_at_call 36;refine(HV.out.2 _ a.out).mono ?_;rintro e w3 ⟨rfl,g⟩;have j:=Q5 (Q9 q.out g.out);obtain⟨ab,_⟩:=(((d.out.below b.out).below a.out).below g.out).rules;have D:=(((d.out.below b.out).below a.out).below g.out).lt)|(go_at_call 37;refine(u.out _ j.out).mono ?_;rintro e Q ⟨I,rfl,N,r⟩))
 have ad:Hid (fB Q (O,I,m)):=by
  obtain⟨mv,S,nv,rv,r1,r2⟩:=F.out;obtain⟨R,C,f2⟩:=N.out;exact⟨S,nv,rv,R,C,L,k,mv,(r1.below g.out).below r.out,f2,r2⟩
 have l:=Q5 (Q9 j.out r.out);have i:=Q5 (HW.out.below l.out);have ac:=(((d.out.below b.out).below a.out).below g.out).below r.out;clear F N HR u xc X ab J H D HH HV;obtain⟨xc,_,J⟩:=ac.boxed;obtain⟨wc,wf,aq⟩:=i.out.box.boxed;have c:=i.out.ors;have am:=yc G l.out.size;obtain⟨E,p,t⟩:=zp c;have an:Q.cell? ⟨wb,1,none⟩=some (.slice E M.rs.length p):=by rw[wc,←t];rfl
 rw[t] at c;clear wc;go_region_law (refine dF Q _ [(π O),(π I),(π m)] 50 rfl (.tmp 65) (.tmp 71) 29 rfl B 50 i0 _ 3 24 underlying29 hi Y af Z rfl (by decide) (.slice E M.rs.length p) M.rs.length (kK M.rs) (by simp[Act.eval]) c (by exact(by repeat'(first|with_reducible(first|apply zR|assumption|apply zN|apply zA|apply zD|apply zS)|go_size))) Q.heap.size 1 (by simp[Act.eval]) (by exact Q6.drew (Q6.new _ _ _)) rfl (by simp[Value.oneCell']) (by omega) (by omega) (by omega) ?_;intro v' w5 K A o ai ak;obtain⟨ao,ah,rfl⟩:=zp K;have ae:=i.out.box.save A (qB c i.out.box (by decide));obtain⟨ap,al,ag⟩:=ae.boxed)
 all_goals
  rw[←t] at A o;obtain⟨T,U,aa⟩:=i.out.addR ad.out K A o;have n:=Q5 T;have q:=Q5 U;have j:=Q5 aa;go_wp2;go_ret;exact⟨rfl,⟨_,_,by simp,n.out⟩,(l.out.mono G).trans q.out,(ze.of l.out).trans j.out⟩
theorem MZ(wb:Nat)(V:OV)(a:List fQ):wb∈yL wb V a:=by simp[yL]
theorem Nt(B:Nat)(w:World)(wb:Nat)(M:OM)(V:OV)(h:QX B w wb M V)(p:fG)(hp:p∈M.ps)(d E:Int)(ah:RD d)(ai:RD E)(hn:M.rs.length<=1048576)(al:M.ord.length<=1048577):
  Calls prog 17 #[(π wb),.agg #[.pointer (some ⟨p.1,0,none⟩),.pointer (some ⟨p.2.1,0,none⟩)],V.orv,.bool M.none,ι d,ι E] w fun e w'=>mK B w wb M V e w':=by
 obtain⟨T,O⟩:=h.hand al;unfold RD at ah ai;by_cases H:d<0∨1048576<d∨E<0∨1048576<E
 ·exact iP B w wb M V h O _ _ d E 8 (zf rfl) (fun W P _ _=>(JB W _ _ d E (by omega) (by omega) H).mono fun e w' ⟨I,F⟩=>by subst F;exact⟨I,zo _ _⟩) (fun W _=>(Jz W _ _ d E H).mono fun e w' ⟨I,F⟩=>by subst F;exact⟨I,zo _ _⟩)
 ·obtain⟨n,rfl⟩:∃n:Nat,d=(n:Int):=⟨d.toNat,by omega⟩;obtain⟨o,rfl⟩:∃o:Nat,E=(o:Int):=⟨E.toNat,by omega⟩;have v:n<=1048576:=by omega
  have u:o<=1048576:=by omega
  obtain⟨⟨lo,s,hB,hP,hQ,_,K,ap,ae⟩,x,hx⟩:=h.pairs p hp;obtain⟨t0,f⟩:=Pn hx;have ak:=ae _ (MZ wb V M.ins);obtain⟨px,pm,i,t⟩:=p;dsimp only at *;obtain⟨ao,Q,am,Y,aj,aa,ag⟩:=hQ.read K ak;have J:=hP.same K;have af:=hQ.same K;have X:lo<=w.heap.size:=by
   obtain⟨q,_,_,F,_⟩:=J;exact yc q (Nat.le_of_lt F.lt)
  have g:=f.parts.runok.1;have h5:∀c∈i,(zw c).length<=5:=fun c S=>lm (f.parts.many c S);have ad:∀c∈i,c.body.length<=999/\yU (zk c)<=1000/\(zw c).length<=5/\∀l∈zk c,∀t∈l.args,0<t.size:=fun c S=>by
   have h1:=f.body c S;have h2:=(g.sums c S).1;exact⟨by omega,by simpa [yU,zk] using h2,h5 c S,fun l hl a ha=>(f.args c S l hl).2 a ha⟩
  have HO:=fun W (r:μ w W)=>O.ord W r pm i t lo (af.below r) ad f.len;cases r:vi i T with
  |false=>
   rw[r] at HO;have hk:pk i t T:=⟨g.len,g.names,g.fine,g.sums,g.few,g.vals,g.jm,O.len,O.each,(fun q=>by rw[r] at q;cases q),fun q=>by rw[r] at q;cases q⟩;exact iP B w wb M V h O _ _ _ _ 9 (zb (zf rfl)) (fun W P j C=>My W px i t P T n o (J.below j) C hk r v u) (fun W j=>PQ v u (HO W j))
  |true=>
   rw[r] at HO;obtain⟨hk,U⟩:=f.parts.runos r;have ab:=eA r h5;have A:=fun W (P:Value) (j:μ w W) (C:jC W P T)=>Jf W px hx (J.below j) f.parts (yc X j.size) P T C r hk U ab n o v u;rw[←JR f.parts (zq i) none T (eA rfl h5) ab] at A;have G:=fun W (j:μ w W)=>KB (z:=wb) v u (HO W j) (yly t i n o) (fun W2 Z=>IH W2 pm n o ao Q am Y aj aa i t0 t (xP h.box.lt (Q9 j Z).size) (ag.below (Q9 j Z)) f.parts f.ctx f.len f.names f.low f.body f.args v u f.few);have b:=GH f.parts f.ctx n o;cases hA:z1m (vj t (zq i) none i) n o with
   |none=>
    rw[hA] at b A;have N:yly t i n o=none:=by
     cases hq:yly t i n o with
     |none=>rfl
     |some y=>rw[hq] at b;exact b.elim
    rw[N] at G;exact iP B w wb M V h O _ _ _ _ 10 (zb (zb rfl)) A G
   |some y=>
    obtain⟨D,ee⟩:=y;rw[hA] at b A;obtain⟨L,kk,N⟩:∃L k,yly t i n o=some (L,k):=by
     cases hq:yly t i n o with
     |none=>rw[hq] at b;exact b.elim
     |some y=>exact⟨y.1,y.2,rfl⟩
    rw[N] at b G;have R:=b.2.card f.ctx;refine O6 B w wb M V h O _ _ _ _ L.length kk hn (fun W P j C=>(A W P j C).mono ?_) (fun W j=>(G W j).mono ?_)
    ·intro e w' q;obtain⟨a,k,rb,m,pv,nv,rv,I,F,q3,q4,q5,q6,q7⟩:=q;obtain rfl:=B7 R q4;have ac:kk=ee:=b.1;subst q3 ac;exact⟨rb,I,⟨m,pv,nv,rv,F,q6⟩,q7⟩
    ·intro e w' q;obtain⟨mb,I,F,q3⟩:=q;obtain⟨fv,_,f2,an,_,f3,_⟩:=F.out;obtain⟨ao,Q,rfl⟩:=zp f3;exact⟨mb,I,⟨ao,Q,f2⟩,q3⟩
end
section
open Go.Proofs.Tryz
variable {M:OM}
structure gF (M M':OM):Prop where
 ps:M'.ps.length<=M.ps.length+1
 rs:M'.rs.length<=M.rs.length+1
 row:M'.row.length<=M.row.length+1
 ins:M'.ins.length<=M.ins.length+1
 ord:M'.ord.length<=M.ord.length+1
theorem gF.refl{a n ex:Int}{nb:Bool}:gF M {M with a:=a,n:=n,ex:=ex,none:=nb}:=⟨by simp,by simp,by simp,by simp,by simp⟩
theorem gF.same:gF M M:=⟨by omega,by omega,by omega,by omega,by omega⟩
theorem gF.term{r:κ}(h:r.length<=M.row.length+1):gF M {M with row:=r}:=⟨by simp,by simp,h,by simp,by simp⟩
def uR(B:Nat)(w:World)(wb:Nat)(M:OM)(e:Ending)(w':World):Prop:=e=ε (.bool true)/\Hid (∃a b,gF M a/\QX B w' wb a b)/\Hid (Below B w w')
theorem uR.kept{B:Nat}{w a:World}{wb:Nat}{V:OV}(h:QX B w wb M V)(b:μ w a):uR B w wb M (ε (.bool true)) a:=⟨rfl,⟨M,V,gF.same,h.below b⟩,b.mono h.size⟩
theorem QX.bx{B:Nat}{w:World}{wb:Nat}{b c a d e f:Value}(h:QX B w wb M ⟨b,c,a,d,e,f⟩):Q6 w wb #[b,c,d,e,ι M.a,ι M.n,ι M.ex,f,.bool M.none,a,ν,ν,ν,ν] 35:=h.box
theorem LO(B:Nat)(w:World)(wb:Nat)(M:OM)(V:OV)(s:ByteArray)(h:QX B w wb M V)(hs:s.size<=1048576)(ae:M.ps.length<=1048576):
  Calls prog 16 #[(π wb),.string s] w fun e w'=>uR B w wb M e w':=by
 have i:s.size<=9223372036854775807:=by omega
 have n:=h.size;have Q:=Q5 h;cases u:xQ s with
 |error k=>
  have hk:=I9 u;have l:=Q5 u;clear u h;go_enter func16,ntmps16;go_wp2_with (first|(go_at_call 32;refine(Lu l.out _ i).mono ?_;rintro e w1 ⟨rfl,g⟩)|(go_at_call 33;refine(Ig l.out _ i).mono ?_;rintro e F ⟨rfl,f⟩))
  go_ret;exact uR.kept Q.out (Q9 g f)
 |ok p=>
  obtain⟨cs,t⟩:=p;obtain⟨i0,hi,z,J,A⟩:=info_parts Qn;have l:=Q5 u;have x:∀b∈yL wb V M.ins,b<w.heap.size:=fun b hb=>by
   obtain⟨_,c,T,q,_⟩:=h.muts b hb;exact q.lt
  have D:=Q5 x;obtain⟨E,ad,N,af,X,aa⟩:=V;have a:w.ownsRow B 40 2 E M.ps.length (kG M.ps):=h.ops;obtain⟨H,r,rfl⟩:=zp a;clear u x h a;go_enter func16,ntmps16;go_wp2_with (first|(go_at_call 32;refine(Oh l.out _ i).mono ?_;rintro e w1 ⟨R,rfl,L,g⟩)|(go_at_call 33;refine(MW l.out _ i).mono ?_;rintro e F ⟨O,rfl,I,f⟩;have m:=Q9 g f;have d:=Q5 (Q.out.below m);have j:F.ownsRow B 40 2 (.slice H M.ps.length r) M.ps.length (kG M.ps):=d.out.ops;obtain⟨Y,ac,U⟩:=d.out.bx.boxed;have P:=m.size)|(at_builtin;refine kV F _ [(π R),(π O)] _ rfl (.tmp 35) (.tmp 39) 28 rfl B 40 i0 _ 2 16 underlying28 hi z J A rfl (by decide) _ _ _ rfl j (zo _ _) _ _ rfl (by simp) rfl (by simp[Value.oneCell']) (by omega) (by omega) (by omega) ?_;intro v' w3 o v y;obtain⟨Z,W,rfl⟩:=zp o;have C:=d.out.bx.save v (qB j d.out.bx (by decide));obtain⟨ab,ag,S⟩:=C.boxed))
  go_ret;obtain⟨G,K⟩:=d.out.addP (p:=(R,O,cs,t)) ⟨lu.new n (L.below f) (I.low g.size) (II l.out) D.out,s,l.out⟩ o v y;exact⟨rfl,⟨_,_,⟨by simp,by simp,by simp,by simp,by simp⟩,G⟩,(m.mono n).trans K⟩
theorem Kp(B:Nat)(w:World)(wb:Nat)(M:OM)(V:OV)(a b c:Int)(s:ByteArray)(h:QX B w wb M V)(ab:M.row.length<=1048576):
  Calls prog 94 #[(π wb),.agg #[ι 9,ι a,ι b,ι c,.string s]] w fun e w'=>uR B w wb M e w':=by
 obtain⟨X,R,v,F,y⟩:=info_parts Qq;have Y:=h.size;have hB:=h.low;obtain⟨ad,ae,x,af,aa,ac⟩:=V;have j:QD B w x M.row:=h.reg;obtain⟨A,k,rfl⟩:=j.qx;have G:w.ownsRow B 9 1 (.slice A M.row.length k) M.row.length (M.row.map Value.string):=j;have S:=Q5 h;have N:=h.bx;obtain⟨hc,hf,ah⟩:=N.boxed;clear h;cases T:(bits BinOp.and IntKind.i64 a 1 == 1) with
 |false=>
  go_enter func94,ntmps94;go_wp2;go_region_law (refine dF w _ [.string s] 9 rfl (.tmp 177) (.tmp 180) 30 rfl B 9 X _ 1 16 underlying30 R v F y rfl (by decide) (.slice A M.row.length k) M.row.length (M.row.map Value.string) (by simp[Act.eval]) G (by exact(by repeat'(first|with_reducible(first|apply zR|assumption|apply zN|apply zA|apply zD|apply zS)|go_size))) (w.heap.size+1) 1 (by simp[Act.eval]) (by exact Q6.drew (Q6.newAt _ _ _ _ (by simp))) rfl (by simp[Value.oneCell']) (by omega) (by omega) (by omega) ?_;intro U O d f i K u;obtain⟨m,g,rfl⟩:=zp d;have n:=N.save f (qB G N (by decide));obtain⟨J,P,D⟩:=n.boxed)
  all_goals
   have l:QD B O (.slice m (M.row.length+1) g) (M.row++[s]):=by
    unfold QD;rw[yp,uQ];exact d
   obtain⟨p,q⟩:=S.out.turn l f (i.imp_right zb);have r:=Q5 p;have o:=Q5 q;go_wp2;go_ret;exact⟨rfl,⟨_,_,gF.term (by simp),r.out⟩,o⟩
 |true=>
  obtain⟨t,C⟩:=S.out.turn (row':=[]) (v':=ν) (yC _ _ _ _) (ze.refl _ _) (zb (zf rfl));have H:=Q5 t;have L:=Q5 C;have E:(w.setCell ⟨wb,9,none⟩ (ν)).heap.size=w.heap.size:=by simp[World.setCell]
  clear t C;go_enter func94,ntmps94;go_wp2;generalize w.setCell ⟨wb,9,none⟩ (ν)=Q at *;have z:=H.out.bx;obtain⟨ag,Z,W⟩:=z.boxed;have I:Q.ownsRow B 9 1 (ν) 0 []:=yC _ _ _ _;go_region_law (refine dF Q _ [.string s] 9 rfl (.tmp 177) (.tmp 180) 30 rfl B 9 X _ 1 16 underlying30 R v F y rfl (by decide) (ν) 0 [] (by simp[Act.eval]) I (by exact(by repeat'(first|with_reducible(first|apply zR|assumption|apply zN|apply zA|apply zD|apply zS)|go_size))) (Q.heap.size+1) 1 (by simp[Act.eval,E]) (by exact Q6.drew (Q6.newAt _ _ _ _ (by simp))) rfl (by simp[Value.oneCell']) (by omega) (by omega) (by omega) ?_;intro U O d f i K u;obtain⟨m,g,rfl⟩:=zp d;have n:=z.save f (by simp[Value.ownBlock]);obtain⟨J,P,D⟩:=n.boxed)
  all_goals
   have l:QD B O (.slice m (0+1) g) [s]:=d;obtain⟨p,q⟩:=H.out.turn l f (i.imp_right zb);have r:=Q5 p;have o:=Q5 q;go_wp2;go_ret;exact⟨rfl,⟨_,_,gF.term (by simp),r.out⟩,L.out.trans o.out⟩
theorem P2(B:Nat)(w:World)(wb:Nat)(M:OM)(V:OV)(a b c:Int)(s:ByteArray)(h:QX B w wb M V)(k:RD a/\RD b/\RD c):
  Calls prog 94 #[(π wb),.agg #[ι 4,ι a,ι b,ι c,.string s]] w fun e g=>uR B w wb M e g:=by
 have r:=Q5 h;obtain⟨j,l,i,m,p,t⟩:=V;have d:=h.bx;obtain⟨u,v,q⟩:=d.boxed;clear h;go_enter func94,ntmps94;go_wp2;go_ret;obtain⟨f,o⟩:=r.out.regs (w':=((w.setCell ⟨wb,4,none⟩ (ι a)).setCell ⟨wb,5,none⟩ (ι b)).setCell ⟨wb,6,none⟩ (ι c)) (a:=a) (n:=b) (ex:=c) (nb:=M.none) k (((ze.set w wb 4 _).trans (ze.set _ wb 5 _)).trans (ze.set _ wb 6 _)) (by simpa [kY] using((d.set 4 (ι a)).set 5 (ι b)).set 6 (ι c));exact⟨rfl,⟨_,_,gF.refl,f.below ((zo _ _).alloc (zg _) _)⟩,o.alloc f.size _⟩
theorem G0(B:Nat)(w:World)(wb:Nat)(M:OM)(V:OV)(a b c:Int)(s:ByteArray)(h:QX B w wb M V):
  Calls prog 94 #[(π wb),.agg #[ι 6,ι a,ι b,ι c,.string s]] w fun e v=>uR B w wb M e v:=by
 have n:=Q5 h;obtain⟨k,l,f,m,i,j⟩:=V;have p:=h.bx;obtain⟨z,A,y⟩:=p.boxed;clear h;generalize q:(bits BinOp.and IntKind.i64 a 1 == 1)=d;go_enter func94,ntmps94;go_wp2;go_ret;have r:ze (wb::j.ownBlock.toList) w ((((w.setCell ⟨wb,7,none⟩ (.slice (some ⟨w.heap.size+1,0,none⟩) 0 0)).setCell ⟨wb,8,none⟩ (.bool d)).alloc (.cells #[ι 6,ι a,ι b,ι c,.string s] 67)).alloc (.cells #[] 24)):=(((ze.set w wb 7 _).trans (ze.set _ wb 8 _)).more (by simp)).trans (ze.of (((zo _ _).alloc (zg _) _).alloc (by simp[World.alloc]) _));have g:=CL ((((w.setCell ⟨wb,7,none⟩ (.slice (some ⟨w.heap.size+1,0,none⟩) 0 0)).setCell ⟨wb,8,none⟩ (.bool d)).alloc (.cells #[ι 6,ι a,ι b,ι c,.string s] 67))) [] 24 (by decide);have x:((((w.setCell ⟨wb,7,none⟩ (.slice (some ⟨w.heap.size+1,0,none⟩) 0 0)).setCell ⟨wb,8,none⟩ (.bool d)).alloc (.cells #[ι 6,ι a,ι b,ι c,.string s] 67))).heap.size=w.heap.size+1:=by simp[World.setCell,World.alloc]
 rw[x] at g;obtain⟨u,t⟩:=n.out.reord (ord':=[]) (nb:=d) r (((show Q6 _ wb (kY {M with ord:=[],none:=d} ⟨k,l,f,m,i,.slice (some ⟨w.heap.size+1,0,none⟩) 0 0⟩) 35 from by simpa [kY] using(p.set 7 (.slice (some ⟨w.heap.size+1,0,none⟩) 0 0)).set 8 (.bool d)).up _).up _) (yr g (by have:=n.out.size;omega)) (zb (zb ⟨_,rfl,Nat.le_succ _⟩)) (fun o g=>by cases g);exact⟨rfl,⟨_,_,⟨by simp,by simp,by simp,by simp,by simp⟩,u⟩,t⟩
end
section
open Go.Proofs.Tryz
theorem sB{w:World}{b a:Nat}{c f:Array Value}{T d:TypeId}(h:Q6 w b c T)(i:Q6 w a f d)(g:T≠d):b≠a:=fun e=>by
 subst e;exact g (h.type i)
theorem Oa(B:Nat)(w:World)(wb:Nat)(M:OM)(V:OV)(a b c:Int)(s:ByteArray)(h:QX B w wb M V)(hn:M.ins.length<=1048577)(ha:RD a)(hb:RD b):
  Calls prog 94 #[(π wb),.agg #[ι 3,ι a,ι b,ι c,.string s]] w fun e w'=>uR B w wb M e w':=by
 have hB:=h.size;have aa:Hid (∀m,μ w m->uR B w wb M (ε (.bool true)) m):=fun m=>uR.kept h;have HT:=Q5 h;obtain⟨aJ,aF,a0,ak,ao,a6⟩:=V;have K:=h.bx;have S:Se B 24 w ak (xv M.ins):=by have:=h.oin;simpa [Se,xv] using this
 have ae:Se B 24 w ao (uz M.ins):=by have:=h.oiw;simpa [Se,uz] using this
 have E:(xv M.ins).length=M.ins.length:=by simp[xv]
 have F:(uz M.ins).length=M.ins.length:=by simp[uz]
 obtain⟨an,I,ac⟩:=zp S;obtain⟨ah,X,Q⟩:=zp ae;rw[E] at ac;rw[F] at Q;subst ac;subst Q;obtain⟨hc,hf,aB⟩:=K.boxed;by_cases h0:M.ins.length=0
 ·clear h;generalize M.ins.length=n at *;subst h0;go_enter func94,ntmps94;go_wp2;go_ret;exact aa.out _ (by repeat'(first|with_reducible(first|apply zR|assumption|apply zN|apply zA|apply zD|apply zS)|go_size))
 ·clear h;go_enter func94,ntmps94;go_wp2;go_quiet ((go_at_call 95;exact Calls.quiet_of_same (mj _ a M.ins.length (by omega) (by omega) ha)))
  obtain⟨k,D⟩:∃k,k=kh a M.ins.length:=⟨_,rfl⟩;have y:k<M.ins.length:=by rw[D];exact mh a (by omega)
  rw[←D];clear D hc hf;have g:μ w ((w.alloc (.cells #[ι 3,ι a,ι b,ι c,.string s] 67)).drewN nq):=zJ zT _;have ab:Q6 ((w.alloc (.cells #[ι 3,ι a,ι b,ι c,.string s] 67)).drewN nq) w.heap.size #[ι 3,ι a,ι b,ι c,.string s] 67:=(Q6.new w _ _).below (zJ (zo _ _) _);generalize (w.alloc (.cells #[ι 3,ι a,ι b,ι c,.string s] 67)).drewN nq=m at *;have t:=K.below g;obtain⟨hc,hf,a4⟩:=t.boxed;obtain⟨H,L,aG⟩:=ab.boxed;have R:=Q5 (HT.out.below g);have Z:Se B 24 m (.slice an M.ins.length I) (xv M.ins):=zB S g;have u:Se B 24 m (.slice ah M.ins.length X) (uz M.ins):=zB ae g;obtain⟨g1,rfl,al,G⟩:=Z.cell k (by rw[E];exact y);obtain⟨g2,rfl,ar,C⟩:=u.cell k (by rw[F];exact y);have e1:(xv M.ins)[k]'(by rw[E];exact y)=.slice (some ⟨M.ins[k].1,0,none⟩) M.ins[k].2.2.length M.ins[k].2.2.length:=by simp[xv,sl]
  have e2:(uz M.ins)[k]'(by rw[F];exact y)=.slice (some ⟨M.ins[k].2.1,0,none⟩) M.ins[k].2.2.length M.ins[k].2.2.length:=by simp[uz,sl]
  rw[e1] at G;rw[e2] at C;have hI:=R.out.ints _ (zs y);have ad:Hid (∀W,μ m W->∀i,∃M' V',QX B ((W.setCell ⟨M.ins[k].1,i,none⟩ (ι c)).setCell ⟨M.ins[k].2.1,i,none⟩ (ι c)) wb M' V'/\gF M M'):=fun W hW i=>⟨_,_,((R.out.below hW).write y i c).1,⟨by simp,by simp,by simp,by simp,by simp⟩⟩;have ag:M.ins[k].1≠M.ins[k].2.1:=(qq.1 HT.out.disI).2.2 _ (zy.2 ⟨_,zs y,rfl⟩) _ (zy.2 ⟨_,zs y,rfl⟩);have a8:=hI.len;obtain⟨⟨Y,P⟩,J,T,_⟩:=hI;clear e1 e2;generalize M.ins[k].1=r at *;generalize M.ins[k].2.1=gc at *;generalize M.ins[k].2.2=l at *;have a5:=J.lt;have ay:=T.lt;by_cases hz:l.length=0
  ·have ai:¬(0:Int)<(l.length:Int):=by omega
   go_wp2;go_ret;exact aa.out _ g
  ·have z:Hid (0<l.length):=by unfold Hid;omega
   have aD:(0:Int)<(l.length:Int):=by omega
   have aq:=Q5 fun W=>mj W b l.length z.out (by omega) hb;go_wp2;go_quiet ((go_at_call 95;exact Calls.quiet_of_same (aq.out _)))
   obtain⟨i,A⟩:∃i,i=kh b l.length:=⟨_,rfl⟩;have N:i<l.length:=by rw[A];exact mh b z.out
   rw[←A];clear A hc hf H L;have d:μ m (m.drewN nq):=zJ (zo _ _) _;generalize m.drewN nq=p at *;have ai:=d.size;have o:=t.below d;obtain⟨hc,hf,a3⟩:=o.boxed;have v:=ab.below d;obtain⟨H,L,aw⟩:=v.boxed;have aH:=zl d al G;have aI:=zl d ar C;have a2:g1<p.heap.size:=by omega
   have az:g2<p.heap.size:=by omega
   obtain⟨M',V',O,hG⟩:=ad.out p d i;have am:=Q5 O;have HG:=Q5 hG;have f:=J.below d;have j:=T.below d;clear ad O hG G C;have a9:p.cell? ⟨r,i,none⟩=some (ι l[i]):=by rw[f.rules.1];simp[xX,N]
   have af:p.cell? ⟨gc,i,none⟩=some (ι l[i]):=by rw[j.rules.1];simp[xX,N]
   have ax:=f.lt;have U:=j.lt;have aC:=f.rules.2;have aA:=j.rules.2;have au:r≠wb:=sB f o (by decide);have a1:gc≠wb:=sB j o (by decide);have av:r≠w.heap.size:=sB f v (by decide);have aE:r≠g2:=fun e=>by
    obtain⟨q,hq⟩:=uW (zB u d) (b:=g2) rfl;exact sB f hq (by decide) e
   generalize l[i]=x at *;go_wp2;have ap:ze [r] p (p.setCell ⟨r,i,none⟩ (ι c)):=ze.set p r i _;have a7:(p.setCell ⟨r,i,none⟩ (ι c)).cell? ⟨gc,i,none⟩=some (ι x):=by
    rw[World.cell?_of_block (w:=p) (ap.block gc U (by simp;exact Ne.symm ag))];exact af
   have aj:Below B w (((p.setCell ⟨r,i,none⟩ (ι c)).setCell ⟨gc,i,none⟩ (ι c))):=(((g.mono hB).trans (d.mono (by have:=g.size;omega))).setCell Y _).setCell P _;go_region
   go_wp2;go_region
   go_wp2;go_ret;exact⟨rfl,⟨M',V',HG.out,am.out.below (zo _ _).drew.drew⟩,aj.drew.drew⟩
def sE(B:Nat)(w:World)(wb:Nat)(M:OM)(e:Ending)(w':World):Prop:=e=ε (.tuple #[])/\Hid (∃a b,gF M a/\QX B w' wb a b)/\Hid (Below B w w')
theorem QX.push{B:Nat}{w a w':World}{wb:Nat}{M:OM}{V:OV}(h:QX B w wb M V){o:pI}{v':Value}(j:a.ownsRow B 24 1 v' (M.ord.length+1) (M.ord.map jK++[jK o]))(f:ze V.orv.ownBlock.toList w a)(e:v'.ownBlock=V.orv.ownBlock∨∃g,v'.ownBlock=some g/\w.heap.size<=g)(k:mw M.ins o)(d:Below a.heap.size (a.setCell ⟨wb,7,none⟩ v') w'):sE B w wb M (ε (.tuple #[])) w':=by
 have b:=h.box.save f ((NT.own h.oor (by decide)).not h.box);have l:(a.setCell ⟨wb,7,none⟩ v').heap.size=a.heap.size:=by simp[World.setCell]
 obtain⟨i,m⟩:=h.reord (ord':=M.ord++[o]) (nb:=M.none) (w':=a.setCell ⟨wb,7,none⟩ v') (py f 7 v') (by simpa [kY] using b.set 7 v') (by
  rw[yp,uQ];exact yJ j (ze.set a wb 7 v') (NT.cons b (by decide) NT.nil)) (e.imp_right zb) (fun q c=>by
  rcases zI.1 c with c|c
  ·exact h.win q c
  ·rw[xF.1 c];exact k)
 rw[←l] at d;exact⟨rfl,⟨_,_,⟨by simp,by simp,by simp,by simp,by simp⟩,i.below d⟩,m.trans (d.mono i.size)⟩
theorem DN(B:Nat)(w:World)(wb:Nat)(M:OM)(V:OV)(a b c:Int)(s:ByteArray)(h:QX B w wb M V)(hn:M.ord.length<=1048577)(T:M.ins.length=0∨(bits BinOp.and IntKind.i64 b 1 == 1)=true):
  Calls prog 135 #[(π wb),.agg #[ι 5,ι a,ι b,ι c,.string s]] w fun e S=>sE B w wb M e S:=by
 obtain⟨i0,X,x,G,y⟩:=info_parts PR;have Z:=h.size;obtain⟨ac,ah,L,H,W,C⟩:=V;have Q:=h.bx;obtain⟨O,K⟩:=h.regs (w':=w.setCell ⟨wb,8,none⟩ (.bool false)) (a:=M.a) (n:=M.n) (ex:=M.ex) (nb:=false) h.num (ze.set w wb 8 _) (by simpa [kY] using Q.set 8 (.bool false));have HW:=Q5 O;have HB:=Q5 K;have E:w.ownsRow B 24 1 H M.ins.length (xv M.ins):=h.oin;obtain⟨ab,P,rfl⟩:=zp E;have D:w.ownsRow B 24 1 C M.ord.length (M.ord.map jK):=h.oor;obtain⟨t,f,rfl⟩:=zp D;obtain⟨hc,hf,I⟩:=Q.boxed;clear h O K;have ai:wb<w.heap.size:=I;by_cases F:M.ins.length=0
 all_goals
  have i:((M.ins.length:Int) == 0)=decide (M.ins.length=0):=by cases u:decide (M.ins.length=0)<;>simp at u ⊢<;>omega
  first|rw[decide_eq_true F] at i|(rw[decide_eq_false F] at i;have R:=T.resolve_left F)
  clear T;go_enter func135,ntmps135;go_upto_region 3 with fail
  have j:Hid (Below w.heap.size (w.setCell ⟨wb,8,none⟩ (.bool false)) ((w.setCell ⟨wb,8,none⟩ (.bool false)).alloc (.cells #[ι 5,ι a,ι b,ι c,.string s] 67))):=(zo _ _).alloc (by simp[World.setCell]) _;have g:(w.setCell ⟨wb,8,none⟩ (.bool false)).heap.size=w.heap.size:=by simp[World.setCell]
  generalize (w.setCell ⟨wb,8,none⟩ (.bool false)).alloc (.cells #[ι 5,ι a,ι b,ι c,.string s] 67)=N at *;generalize w.setCell ⟨wb,8,none⟩ (.bool false)=wY at *;rw[←g] at j;have d:=Q5 (HW.out.below j.out);have ak:=d.out.size;have k:=d.out.bx;have q:N.ownsRow B 24 1 (.slice t M.ord.length f) M.ord.length (M.ord.map jK):=d.out.oor;obtain⟨ad,Y,ae⟩:=k.boxed;have A:=Q5 (HB.out.trans (j.out.mono (by rw[g];exact Z)));go_wp2_with (at_builtin;refine kV N _ [ν] _ rfl (.tmp 28) (.tmp 29) 26 rfl B 24 i0 _ 1 24 underlying26 X x G y rfl (by decide) (.slice t M.ord.length f) M.ord.length (M.ord.map jK) rfl q (zo _ _) _ _ rfl (by simp) rfl (by simp[Value.oneCell']) (by omega) (by omega) (by omega) ?_;intro v3 w3 l p r;obtain⟨af,J,rfl⟩:=zp l;have v:=k.save p (qB q k (by decide));obtain⟨ag,aj,aa⟩:=v.boxed)
  (try simp only[Exit.inBlock,Exit.then])
  refine zL (results_none rfl _ _ _) rfl ?_;have u:=d.out.push (o:=none) l p r trivial (zo _ _);obtain⟨_,⟨M',V',m,U⟩,z⟩:=u;exact⟨rfl,⟨M',V',⟨m.ps,m.rs,m.row,m.ins,m.ord⟩,U⟩,A.out.trans z.out⟩
theorem LB(B:Nat)(w:World)(wb:Nat)(M:OM)(V:OV)(a b c:Int)(s:ByteArray)(h:QX B w wb M V)(ha:RD a)(hn:M.ord.length<=1048577)(aM:M.ins.length<=1048577)(hz:M.ins.length≠0)(a9:(bits BinOp.and IntKind.i64 b 1 == 1)=false):
  Calls prog 135 #[(π wb),.agg #[ι 5,ι a,ι b,ι c,.string s]] w fun e v=>sE B w wb M e v:=by
 obtain⟨i0,hi,al,a6,an⟩:=info_parts PR;have hB:=h.size;have d:=h.num;obtain⟨aS,aO,aA,aq,aQ,ag⟩:=V;have hb:=h.bx;obtain⟨h1,h2⟩:=h.regs (w':=w.setCell ⟨wb,8,none⟩ (.bool false)) (a:=M.a) (n:=M.n) (ex:=M.ex) (nb:=false) h.num (ze.set w wb 8 _) (by simpa [kY] using hb.set 8 (.bool false));have HW:=Q5 h1;have HB:=Q5 h2;have T:w.ownsRow B 24 1 aq M.ins.length (xv M.ins):=h.oin;obtain⟨aw,N,rfl⟩:=zp T;have ad:w.ownsRow B 24 1 ag M.ord.length (M.ord.map jK):=h.oor;obtain⟨P,D,rfl⟩:=zp ad;obtain⟨hc,hf,ar⟩:=hb.boxed;clear h h1 h2;have a7:((M.ins.length:Int) == 0)=false:=by rw[beq_eq_false_iff_ne];omega
 go_enter func135,ntmps135;go_upto_region 5 with fail
 have A:Hid (Below w.heap.size (w.setCell ⟨wb,8,none⟩ (.bool false)) ((w.setCell ⟨wb,8,none⟩ (.bool false)).alloc (.cells #[ι 5,ι a,ι b,ι c,.string s] 67))):=(zo _ _).alloc (by simp[World.setCell]) _;have i:(w.setCell ⟨wb,8,none⟩ (.bool false)).heap.size=w.heap.size:=by simp[World.setCell]
 have ae:Q6 ((w.setCell ⟨wb,8,none⟩ (.bool false)).alloc (.cells #[ι 5,ι a,ι b,ι c,.string s] 67)) w.heap.size #[ι 5,ι a,ι b,ι c,.string s] 67:=Q6.newAt _ _ _ _ i.symm;generalize (w.setCell ⟨wb,8,none⟩ (.bool false)).alloc (.cells #[ι 5,ι a,ι b,ι c,.string s] 67)=R at *;generalize w.setCell ⟨wb,8,none⟩ (.bool false)=wY at *;rw[←i] at A;have f:=Q5 (HW.out.below A.out);have aj:=f.out.size;have C:=f.out.bx;dsimp only at C;have Y:=Q5 (HB.out.trans (A.out.mono (by rw[i];exact hB)));clear hc hf ar hb T ad HW HB A;obtain⟨ax,av,ah⟩:=C.boxed;obtain⟨af,ak,ay⟩:=ae.boxed;obtain⟨k,F⟩:∃k,k=kh a M.ins.length:=⟨_,rfl⟩;have hk:k<M.ins.length:=by rw[F];exact mh a (by omega)
 have ac:Hid (∀W:World,Calls prog 95 #[ι a,ι M.ins.length] W fun e v=>e=ε (ι (k:Int))/\v=W):=fun W=>by rw[F];exact mj W a M.ins.length (by omega) (by omega) ha
 clear F;have U:Se B 24 R (.slice aw M.ins.length N) (xv M.ins):=by have:=f.out.oin;simpa [Se,xv] using this
 obtain⟨g1,rfl,aI,ab⟩:=U.cell k (by simp[xv,hk]);have hI:=f.out.ints _ (zs hk);have HX:Hid (∃x∈M.ins,x=M.ins[k]):=⟨_,zs hk,rfl⟩;have e1:(xv M.ins)[k]'(by simp[xv,hk])=.slice (some ⟨M.ins[k].1,0,none⟩) M.ins[k].2.2.length M.ins[k].2.2.length:=by simp[xv,sl]
 rw[e1] at ab;have aE:=hI.len;have Q:=hI.one.lt;clear e1 hI;generalize M.ins[k]=x at *;have j:=Q5 fun W=>mj W M.a (x.2.2.length+1) (by omega) (by omega) d.1;obtain⟨at',g⟩:∃q,q=kh M.a (x.2.2.length+1):=⟨_,rfl⟩;have a2:at'<x.2.2.length+1:=by rw[g];exact mh _ (by omega)
 rw[←g] at j;have m:=Q5 fun W=>mj W M.n (x.2.2.length-at'+1) (by omega) (by omega) d.2.1;obtain⟨n,I⟩:∃q,q=kh M.n (x.2.2.length-at'+1):=⟨_,rfl⟩;have a0:n<x.2.2.length-at'+1:=by rw[I];exact mh _ (by omega)
 rw[←I] at m;have p:=Q5 fun W=>mj W M.ex (x.2.2.length-at'-n+1) (by omega) (by omega) d.2.2;obtain⟨l,K⟩:∃q,q=kh M.ex (x.2.2.length-at'-n+1):=⟨_,rfl⟩;have az:l<x.2.2.length-at'-n+1:=by rw[K];exact mh _ (by omega)
 rw[←K] at p;clear g I K d;have ao:Hid (∀W,Calls prog 95 #[ι M.a,ι ((x.2.2.length:Int)+1)] W fun e v=>e=ε (ι (at':Int))/\v=W):=fun W=>by
  have:=j.out W;rw[Int.natCast_add] at this;exact this
 have a5:Hid (∀W,Calls prog 95 #[ι M.n,ι ((x.2.2.length:Int)-(at':Int)+1)] W fun e v=>e=ε (ι (n:Int))/\v=W):=fun W=>by
  have:=m.out W;rw[show((x.2.2.length-at'+1:Nat):Int)=(x.2.2.length:Int)-(at':Int)+1 from by omega] at this;exact this
 have a4:Hid (∀W,Calls prog 95 #[ι M.ex,ι ((x.2.2.length:Int)-(at':Int)-(n:Int)+1)] W fun e v=>e=ε (ι (l:Int))/\v=W):=fun W=>by
  have:=p.out W;rw[show((x.2.2.length-at'-n+1:Nat):Int)=(x.2.2.length:Int)-(at':Int)-(n:Int)+1 from by omega] at this;exact this
 clear j m p;go_quiet ((go_at_call 95;exact Calls.quiet_of_same (ac.out _)))
 clear ac;have t:Hid (μ R (R.drewN nq)):=zJ (zo _ _) _;generalize R.drewN nq=wZ at *;have J:=Q5 (f.out.below t.out);have G:=C.below t.out;have aH:x.1<wZ.heap.size:=xP Q t.out.size;have am:=Q5 (Y.out.trans (t.out.mono aj));have H:Hid (mw M.ins (some (x.1,at',n,l))):=by
  obtain⟨y,hy,rfl⟩:=HX.out;exact⟨y,hy,rfl,by omega⟩
 have aa:wZ.ownsRow B 24 1 (.slice P M.ord.length D) M.ord.length (M.ord.map jK):=J.out.oor;have aF:=J.out.size;have l1:at'<=x.2.2.length:=by omega
 have l2:at'+n<=x.2.2.length:=by omega
 have l3:at'+n+l<=x.2.2.length:=by omega
 clear ax av ah af ak ay ae C U ab Q HX f Y t a2 a0 az;obtain⟨aB,aK,aD⟩:=G.boxed;generalize x.1=L at *;generalize x.2.2.length=ln at *;generalize M.a=ma at *;generalize M.n=mn at *;generalize M.ex=me at *;go_upto_region 7 with (go_at_call 95;refine(ao.out _).mono ?_;rintro e w5 ⟨rfl,r⟩;obtain rfl:=r.symm)
 go_upto_region 8 with (go_at_call 95;refine(a5.out _).mono ?_;rintro e w5 ⟨rfl,r⟩;obtain rfl:=r.symm)
 go_upto_region 9 with (go_at_call 95;refine(a4.out _).mono ?_;rintro e w5 ⟨rfl,r⟩;obtain rfl:=r.symm)
 obtain⟨E,a3⟩:∃E,E=at'+n:=⟨_,rfl⟩;obtain⟨z,ai⟩:∃z,z=at'+n+l:=⟨_,rfl⟩;obtain⟨u,aL,ap⟩:∃u,(if z=at' then some (⟨L,0,none⟩:Addr) else some ⟨L,at',none⟩)=some ⟨L,u,none⟩/\Hid (mw M.ins (some (L,u,n,l))):=by
  by_cases q:z=at'
  ·obtain⟨y,hy,e,aP⟩:=H.out;exact⟨0,by simp[q],⟨y,hy,e,by omega⟩⟩
  ·exact⟨at',by simp[q],H⟩
 have aC:IntKind.i64.wrap ((at':Int)+(n:Int))=(E:Int):=by rw[IntKind.wrap_i64];omega
 have aR:IntKind.i64.wrap ((E:Int)+(l:Int))=(z:Int):=by rw[IntKind.wrap_i64];omega
 have c1:(z:Int)<=(ln:Int):=by omega
 have c2:(E:Int)<=max (z:Int) 0:=by omega
 have c3:at'<=E:=by omega
 have c4:E<=z:=by omega
 have d1:E-at'=n:=by omega
 have d2:z-at'=n+l:=by omega
 clear a3 ai l1 l2 l3 H;go_region_law (refine dF wZ _ [.slice (some ⟨L,u,none⟩) n (n+l)] 24 rfl (.tmp 82) (.tmp 94) 26 rfl B 24 i0 _ 1 24 underlying26 hi al a6 an rfl (by decide) (.slice P M.ord.length D) M.ord.length (M.ord.map jK) (by simp[Act.eval]) aa (by exact(by repeat'(first|with_reducible(first|apply zR|assumption|apply zN|apply zA|apply zD|apply zS)|go_size))) wZ.heap.size 1 (by simp[Act.eval]) (by exact Q6.drew (Q6.new _ _ _)) rfl (by simp[Value.oneCell']) (by omega) (by omega) (by omega) ?_;intro v3 w3 X Z O aJ aT;obtain⟨aN,a8,rfl⟩:=zp X;have a1:=G.save Z (qB aa G (by decide));obtain⟨aU,aV,aG⟩:=a1.boxed)
 all_goals
  go_wp2
  (try simp only[Exit.inBlock,Exit.then])
  refine zL (results_none rfl _ _ _) rfl ?_;obtain⟨_,⟨M',V',S,hW⟩,au⟩:=J.out.push (o:=some (L,u,n,l)) X Z O ap.out (zo _ _);exact⟨rfl,⟨M',V',⟨S.ps,S.rs,S.row,S.ins,S.ord⟩,hW⟩,am.out.trans au.out⟩
theorem FM(B:Nat)(w:World)(wb:Nat)(M:OM)(V:OV)(a b c:Int)(s:ByteArray)(h:QX B w wb M V)(n:RD a)(j:M.ord.length<=1048577)(l:M.ins.length<=1048577):
  Calls prog 94 #[(π wb),.agg #[ι 5,ι a,ι b,ι c,.string s]] w fun e k=>uR B w wb M e k:=by
 have o:Hid (∀W,μ w W->Calls prog 135 #[(π wb),.agg #[ι 5,ι a,ι b,ι c,.string s]] W fun e k=>sE B W wb M e k):=fun W i=>by
  by_cases m:M.ins.length=0
  ·exact DN B W wb M V a b c s (h.below i) j (zf m)
  ·cases d:(bits BinOp.and IntKind.i64 b 1 == 1) with
   |true=>exact DN B W wb M V a b c s (h.below i) j (zb d)
   |false=>exact LB B W wb M V a b c s (h.below i) n j l m d
 have p:=h.size;clear h;go_enter func94,ntmps94;go_wp2_with (go_at_call 135;refine(o.out _ (by exact(by repeat'(first|with_reducible(first|apply zR|assumption|apply zN|apply zA|apply zD|apply zS)|go_size)))).mono ?_;rintro e q ⟨rfl,f,g⟩)
 go_ret;exact⟨rfl,f,(Below.mono (w:=w) (by repeat'(first|with_reducible(first|apply zR|assumption|apply zN|apply zA|apply zD|apply zS)|go_size)) p).trans g.out⟩
def uO(s:ByteArray)(k:Nat):List Int:=(List.range s.size).map fun i=>if i<k then QE s i else 0
theorem OQ(s:ByteArray)(k:Nat):(uO s k).length=s.size:=by simp[uO]
theorem F9(s:ByteArray)(k:Nat):(uO s k).set k (QE s k)=uO s (k+1):=by
 refine kP (by simp[uO]) fun i a b=>?_;simp only[uO,lC,uM,mp];by_cases e:k=i
 ·subst e;simp
 ·rw[za e];by_cases q:i<k
  ·rw[zc q,zc (by omega)]
  ·rw[za q,za (by omega)]
theorem Ly(s:ByteArray):madeCells #[ι 0] s.size=xX (uO s 0):=by
 refine Array.ext (by simp[size_madeCells,xX,uO]) fun i a b=>?_;simp[madeCells,xX,uO,Nat.mod_one]
theorem Dw{s:ByteArray}{k i:Nat}(a:i<s.size):(xX (uO s k))[i]?=some (ι (if i<k then QE s i else 0)):=by simp[xX,uO,a]
theorem GU(B:Nat)(w:World)(wb:Nat)(M:OM)(V:OV)(a b c:Int)(s:ByteArray)(h:QX B w wb M V)(hs:s.size<=1048576)(aO:M.ins.length<=1048577):
  Calls prog 94 #[(π wb),.agg #[ι 2,ι a,ι b,ι c,.string s]] w fun e w'=>uR B w wb M e w':=by
 obtain⟨i0,hi,ab,an,ac⟩:=info_parts PR;have hB:=h.size;have HW:=Q5 h;have aq:=fun W:World=>run_make_row' (P:=prog) (w:=W) 24 3 (ι 0) 8 underlying24 Qv rfl .i64 .i64 s.size (by omega) (by omega);rw[Ly] at aq;obtain⟨aX,aT,a8,ax,a2,aC⟩:=V;have J:w.ownsRow B 24 1 ax M.ins.length (xv M.ins):=h.oin;obtain⟨t,m,rfl⟩:=zp J;have N:w.ownsRow B 24 1 a2 M.ins.length (uz M.ins):=h.oiw;obtain⟨n,f,rfl⟩:=zp N;clear h J N;go_enter func94,ntmps94;go_upto_region 6 with fail
 have a5:Q6 (((w.alloc (.cells #[ι 2,ι a,ι b,ι c,.string s] 67)).alloc (.cells (xX (uO s 0)) 3)).alloc (.cells (xX (uO s 0)) 3)) w.heap.size #[ι 2,ι a,ι b,ι c,.string s] 67:=((Q6.new w _ _).up _).up _;have ay:Q6 (((w.alloc (.cells #[ι 2,ι a,ι b,ι c,.string s] 67)).alloc (.cells (xX (uO s 0)) 3)).alloc (.cells (xX (uO s 0)) 3)) (w.heap.size+1) (xX (uO s 0)) 3:=(Q6.newAt _ _ _ _ (by simp)).up _;have az:Q6 (((w.alloc (.cells #[ι 2,ι a,ι b,ι c,.string s] 67)).alloc (.cells (xX (uO s 0)) 3)).alloc (.cells (xX (uO s 0)) 3)) (w.heap.size+1+1) (xX (uO s 0)) 3:=Q6.newAt _ _ _ _ (by simp);have a6:Hid (μ w (((w.alloc (.cells #[ι 2,ι a,ι b,ι c,.string s] 67)).alloc (.cells (xX (uO s 0)) 3)).alloc (.cells (xX (uO s 0)) 3))):=(show μ w _ from(by repeat'(first|with_reducible(first|apply zR|assumption|apply zN|apply zA|apply zD|apply zS)|go_size)));generalize ((w.alloc (.cells #[ι 2,ι a,ι b,ι c,.string s] 67)).alloc (.cells (xX (uO s 0)) 3)).alloc (.cells (xX (uO s 0)) 3)=wX at *;have aw:Hid (w.heap.size<w.heap.size+1):=Nat.lt_succ_self _;generalize w.heap.size+1=r at *;have ao:Hid (r<r+1):=Nat.lt_succ_self _;generalize r+1=D at *;go_wp2;go_loopw [7] (fun v7 wr=>∃k:Nat,k<=s.size/\v7=ι k/\Q6 wr w.heap.size #[ι 2,ι a,ι b,ι c,.string s] 67/\Q6 wr r (xX (uO s k)) 3/\Q6 wr D (xX (uO s k)) 3/\Hid (μ w wr)) (fun i _=>s.size-(intOf i).toNat)
 case atStart=>exact⟨0,zv _,rfl,a5,ay,az,a6⟩
 case round=>
  obtain⟨k,hk,rfl,ho,h1,h2,HB⟩:=hrel;obtain⟨aB,aG,aU⟩:=ho.boxed;have aM:=h1.lt;have aR:=h2.lt;have aN:=aw.out;have aW:=ao.out;by_cases U:k<s.size
  ·have ak:=vX U;have aY:=h1.rules.2;have aS:=h2.rules.2;have aV:wr.cell? ⟨r,k,none⟩=some (ι (if k<k then QE s k else 0)):=by rw[h1.rules.1];exact Dw U
   have a9:wr.cell? ⟨D,k,none⟩=some (ι (if k<k then QE s k else 0)):=by rw[h2.rules.1];exact Dw U
   have a4:w.heap.size≠r:=by omega
   have av:w.heap.size≠D:=by omega
   have ad:r≠D:=by omega
   have a3:=h1.set k (ι (QE s k));have ap:=h2.set_ne (Ne.symm ad) k (ι (QE s k));have u:=((ho.set_ne a4 k (ι (QE s k))).set_ne av k (ι (QE s k)));have y:=a3.set_ne ad k (ι (QE s k));have z:=ap.set k (ι (QE s k));rw[oK,F9] at y z;have ae:Hid (μ w ((wr.setCell ⟨r,k,none⟩ (ι (QE s k))).setCell ⟨D,k,none⟩ (ι (QE s k)))):=(HB.out.setCell (by show w.heap.size<=r;omega) _).setCell (by show w.heap.size<=D;omega) _;rw[ak] at y z u ae;have a7:wrap64 (s[k].toNat:Int)=(s[k].toNat:Int):=by
    have:=fa s k;rw[ak] at this;unfold wrap64;omega
   go_wp2;go_roundw
   case rel=>exact⟨k+1,by omega,by go_num,u,y,z,ae⟩
   case measure=>simp[intOf];omega
  ·have a0:k=s.size:=by omega
   subst a0;have F:=Q5 (HW.out.below HB.out);have A:=F.out.bx;obtain⟨hc,hf,bb⟩:=A.boxed;have S:wr.ownsRow B 24 1 (.slice t M.ins.length m) M.ins.length (xv M.ins):=F.out.oin;have E:wr.ownsRow B 24 1 (.slice n M.ins.length f) M.ins.length (uz M.ins):=F.out.oiw;have aP:=F.out.size;have aI:=HB.out.size;have HD:=Q5 HW.out.dis3;have I:∀q,(Value.slice t M.ins.length m).ownBlock=some q->(Value.slice n M.ins.length f).ownBlock≠some q:=fun q H L=>(qq.1 HD.out).2.2 q (by rw[H];simp) q (by rw[L];simp) rfl;go_upto_region 13 with (at_builtin;refine kV wr _ [.slice (some ⟨r,0,none⟩) s.size s.size] _ rfl (.tmp 52) (.tmp 54) 26 rfl B 24 i0 _ 1 24 underlying26 hi ab an ac rfl (by decide) (.slice t M.ins.length m) M.ins.length (xv M.ins) rfl S (zo _ _) _ _ rfl (by simp) rfl (by simp[Value.oneCell']) (by omega) (by omega) (by omega) ?_;intro v3 T ag X G;obtain⟨j,d,rfl⟩:=zp ag;have u:=A.save X (qB S A (by decide));obtain⟨ba,bc,aK⟩:=u.boxed)
   have v:=u.set 2 (.slice j (M.ins.length+1) d);have aD:(T.setCell ⟨wb,2,none⟩ (.slice j (M.ins.length+1) d)).heap.size=T.heap.size:=by simp[World.setCell]
   have aj:ze (wb::(Value.slice t M.ins.length m).ownBlock.toList) wr (T.setCell ⟨wb,2,none⟩ (.slice j (M.ins.length+1) d)):=py X 2 _;have R:(T.setCell ⟨wb,2,none⟩ (.slice j (M.ins.length+1) d)).ownsRow B 24 1 (.slice j (M.ins.length+1) d) (M.ins.length+1) (xv M.ins++[.slice (some ⟨r,0,none⟩) s.size s.size]):=yJ ag (ze.set T wb 2 _) (NT.cons u (by decide) NT.nil);have O:(T.setCell ⟨wb,2,none⟩ (.slice j (M.ins.length+1) d)).ownsRow B 24 1 (.slice n M.ins.length f) M.ins.length (uz M.ins):=yT E aj fun q p Q=>by
    rcases zx.1 Q with rfl|Q
    ·exact uy E A (by decide) p rfl
    ·exact I q (yt Q) p
   have aZ:=X.size;generalize T.setCell ⟨wb,2,none⟩ (.slice j (M.ins.length+1) d)=w4 at *;simp only[List.setIfInBounds_toArray,mL,nG] at v;obtain⟨aL,aF,aE⟩:=v.boxed;have aQ:B<=w4.heap.size:=by omega
   go_wp2_with (at_builtin;refine kV w4 _ [.slice (some ⟨D,0,none⟩) s.size s.size] _ rfl (.tmp 63) (.tmp 65) 26 rfl B 24 i0 _ 1 24 underlying26 hi ab an ac rfl (by decide) (.slice n M.ins.length f) M.ins.length (uz M.ins) rfl O (zo _ _) _ _ rfl (by omega) rfl (by simp[Value.oneCell']) (by omega) (by omega) (by omega) ?_;intro v5 w5 ah am K;obtain⟨C,o,rfl⟩:=zp ah;have Y:=v.save am (qB O v (by decide));obtain⟨aA,aJ,aH⟩:=Y.boxed)
   go_ret;have aa:ze (wb::(Value.slice n M.ins.length f).ownBlock.toList) w4 (w5.setCell ⟨wb,3,none⟩ (.slice C (M.ins.length+1) o)):=py am 3 _;have Z:ze (wb::((Value.slice t M.ins.length m).ownBlock.toList++(Value.slice n M.ins.length f).ownBlock.toList)) wr (w5.setCell ⟨wb,3,none⟩ (.slice C (M.ins.length+1) o)):=(aj.more (fun q p=>by simp only[zx,zI] at p ⊢;rcases p with p|p<;>simp[p])).trans (aa.more (fun q p=>by simp only[zx,zI] at p ⊢;rcases p with p|p<;>simp[p]));have hT:NT wr 3 (wb::((Value.slice t M.ins.length m).ownBlock.toList++(Value.slice n M.ins.length f).ownBlock.toList)):=NT.cons A (by decide) ((NT.own S (by decide)).app (NT.own E (by decide)));have af:∀q,(Value.slice j (M.ins.length+1) d).ownBlock=some q->q<w4.heap.size:=fun q e=>xK R e;have al:∀q,(Value.slice n M.ins.length f).ownBlock=some q->q<wr.heap.size:=fun q e=>xK E e;have ai:∀q,(Value.slice j (M.ins.length+1) d).ownBlock=some q->(Value.slice n M.ins.length f).ownBlock≠some q:=fun q H L=>by
    rcases G with e|⟨g,e,hg⟩
    ·exact I q (by rw[←e,H]) L
    ·rw[e] at H;have:=al q L;simp at H;omega
   have a1:(w5.setCell ⟨wb,3,none⟩ (.slice C (M.ins.length+1) o)).ownsRow B 24 1 (.slice j (M.ins.length+1) d) (M.ins.length+1) (xv M.ins++[.slice (some ⟨r,0,none⟩) s.size s.size]):=yT R aa fun q p Q=>by
    rcases zx.1 Q with rfl|Q
    ·exact uy R v (by decide) p rfl
    ·exact ai q p (yt Q)
   have x:=OQ s s.size;obtain⟨ar,au⟩:=HW.out.addI (ga:=r) (gb:=D) (l:=uO s s.size) (v1:=.slice j (M.ins.length+1) d) (v2:=.slice C (M.ins.length+1) o) ((ze.of HB.out).trans Z) (by simpa [kY] using Y.set 3 (.slice C (M.ins.length+1) o)) (by rw[x];exact a1) (by rw[x];exact yJ ah (ze.set w5 wb 3 _) (NT.cons Y (by decide) NT.nil)) (G.imp_right fun⟨g,e,hg⟩=>⟨g,e,by omega⟩) (K.imp_right fun⟨g,e,hg⟩=>⟨g,e,by omega⟩) (fun q H L=>by
    rcases K with e|⟨g,e,hg⟩
    ·exact ai q H (by rw[←e,L])
    ·rw[e] at L;have:=af q H;simp at L;omega) (by omega) (by omega) (by omega) (h1.save Z (hT.not h1)) (h2.save Z (hT.not h2)) (by rw[x];exact hs)
   exact⟨rfl,⟨_,_,⟨by simp,by simp,by simp,by simp,by simp⟩,ar⟩,au⟩
theorem L7(B:Nat)(w:World)(wb:Nat)(M:OM)(V:OV)(h:QX B w wb M V)(hn:M.ins.length<=1048577):
  Calls prog 58 #[(π wb)] w fun e w'=>e=ε (.bool true)/\μ w w':=by
 obtain⟨ab,ad,N,J,C,aa⟩:=V;have j:=h.bx;have q:Se B 24 w J (xv M.ins):=by have:=h.oin;simpa [Se,xv] using this
 have r:Se B 24 w C (uz M.ins):=by have:=h.oiw;simpa [Se,uz] using this
 have t:(xv M.ins).length=M.ins.length:=by simp[xv]
 have m:(uz M.ins).length=M.ins.length:=by simp[uz]
 obtain⟨Z,P,o⟩:=zp q;obtain⟨ae,O,p⟩:=zp r;rw[t] at o;rw[m] at p;subst o;subst p;have H:Hid (∀i (h:i<M.ins.length),(xv M.ins)[i]'(by simpa [xv] using h)=.slice (some ⟨M.ins[i].1,0,none⟩) M.ins[i].2.2.length M.ins[i].2.2.length):=fun i h=>by simp[xv,sl]
 have E:Hid (∀i (h:i<M.ins.length),(uz M.ins)[i]'(by simpa [uz] using h)=.slice (some ⟨M.ins[i].2.1,0,none⟩) M.ins[i].2.2.length M.ins[i].2.2.length):=fun i h=>by simp[uz,sl]
 have f:∀{W:World} {g:Nat} {l:List Int},Q6 W g (xX l) 3->uF W (.slice (some ⟨g,0,none⟩) l.length l.length) (some l):=fun Q=>⟨_,0,_,rfl,Q.lt,fun k X=>by rw[Q.rules.1];simp[xX,X]⟩;have G:Hid (∀i (h:i<M.ins.length),uF w (.slice (some ⟨M.ins[i].1,0,none⟩) M.ins[i].2.2.length M.ins[i].2.2.length) (some M.ins[i].2.2)/\uF w (.slice (some ⟨M.ins[i].2.1,0,none⟩) M.ins[i].2.2.length M.ins[i].2.2.length) (some M.ins[i].2.2)/\M.ins[i].2.2.length<=1048576):=fun i x=>⟨f (h.ints _ (zs x)).one,f (h.ints _ (zs x)).two,(h.ints _ (zs x)).len⟩;have y:=Q5 fun W (v:μ w W)=>Nh W wb _ _ _ _ _ _ _ _ _ _ _ _ (j.below v);clear h f;go_enter func58,ntmps58;go_wp2;go_loopw [3] (fun D wr=>∃i:Nat,i<=M.ins.length/\D=ι i/\μ w wr) (fun D _=>M.ins.length-(intOf D).toNat)
 case atStart=>exact⟨0,zv _,rfl,zo _ _⟩
 case round=>
  obtain⟨i,x,rfl,a⟩:=hrel;have S:=a.size;have s:=j.below a;obtain⟨hc,hf,af⟩:=s.boxed;by_cases b:i<M.ins.length
  ·obtain⟨g1,rfl,K,d⟩:=q.cell i (by rw[t];exact b);obtain⟨Y,rfl,I,c⟩:=r.cell i (by rw[m];exact b);rw[H.out i b] at d;rw[E.out i b] at c;have T:=zl a K d;have U:=zl a I c;have R:g1<wr.heap.size:=by omega
   have L:Y<wr.heap.size:=by omega
   obtain⟨n,u,ac⟩:=G.out i b;clear d c;generalize M.ins[i].1=ga at *;generalize M.ins[i].2.1=gc at *;generalize M.ins[i].2.2=l at *;have z:=Q5 fun W v=>A6 W _ _ (some l) (n.below v) (u.below v) (by show l.length<=_;omega);clear n u;go_wp2;go_region_with (go_at_call 18;refine(z.out _ (by exact zJ a 1)).mono ?_;rintro e w1 ⟨rfl,F⟩)
   all_goals
    go_wp2;go_roundw
    case rel=>exact⟨i+1,by omega,by go_num,Q9 (zJ a 1) F⟩
    case measure=>simp[intOf];omega
  ·go_wp2;go_loop [5] (fun i=>i=ι 0) (fun _=>0)
   case atStart=>rfl
   case round=>
    subst hrel;go_wp2_with (go_at_call 39;refine(y.out _ a).mono ?_;rintro e w1 ⟨rfl,A⟩;obtain rfl:=A.symm)
    go_ret;exact⟨rfl,a⟩
theorem FC(B:Nat)(w:World)(wb:Nat)(M:OM)(V:OV)(h:QX B w wb M V)(p:fG)(G:p∈M.ps)(a b c:Int)(s:ByteArray)(t:RD b)(O:RD c)(S:M.rs.length<=1048576)(C:M.ord.length<=1048577):
  Calls prog 96 #[(π wb),.agg #[.pointer (some ⟨p.1,0,none⟩),.pointer (some ⟨p.2.1,0,none⟩)],.agg #[ι 7,ι a,ι b,ι c,.string s]] w fun e d=>uR B w wb M e d:=by
 have u:Hid (∀W,μ w W->Calls prog 17 #[(π wb),.agg #[.pointer (some ⟨p.1,0,none⟩),.pointer (some ⟨p.2.1,0,none⟩)],V.orv,.bool M.none,ι b,ι c] W fun e d=>mK B W wb M V e d):=fun W k=>Nt B W wb M V (h.below k) p G b c t O S C;have z:=h.size;have x:∀b∈wb::V.rsv.ownBlock.toList,b<w.heap.size:=fun b t=>by
  rcases zx.1 t with rfl|t
  ·exact h.box.lt
  ·exact xK h.ors (yt t)
 have r:=Q5 x;have HW:=Q5 h;have n:Hid (∀W,μ w W->W.cell? ⟨wb,7,none⟩=some V.orv/\W.cell? ⟨wb,8,none⟩=some (.bool M.none)/\wb<W.heap.size):=fun W k=>by
  have q:=h.box.below k;exact⟨by rw[q.rules.1];rfl,by rw[q.rules.1];rfl,q.lt⟩
 clear h x G;generalize p.1=l at *;generalize p.2.1=m at *;go_enter func96,ntmps96;go_upto_region 3 with fail
 have v:Hid (μ w ((w.alloc (.cells #[(π l),(π m)] 40)).alloc (.cells #[ι 7,ι a,ι b,ι c,.string s] 67))):=(show μ w _ from(by repeat'(first|with_reducible(first|apply zR|assumption|apply zN|apply zA|apply zD|apply zS)|go_size)));have f:=Q5 ((Q6.new w #[(π l),(π m)] 40).up (.cells #[ι 7,ι a,ι b,ι c,.string s] 67));have g:=Q5 (Q6.newAt (w.alloc (.cells #[(π l),(π m)] 40)) (w.heap.size+1) #[ι 7,ι a,ι b,ι c,.string s] 67 (by simp));generalize (w.alloc (.cells #[(π l),(π m)] 40)).alloc (.cells #[ι 7,ι a,ι b,ι c,.string s] 67)=I at *;obtain⟨w7,w8,Z⟩:=n.out _ v.out;have U:=f.out.rules.1 0;have R:=f.out.rules.1 1;have aa:=f.out.lt;have X:=g.out.rules.1 2;have P:=g.out.rules.1 3;have T:=g.out.lt;simp at U R X P;have F:Hid (∀W,μ I W->Calls prog 17 #[(π wb),.agg #[(π l),(π m)],V.orv,.bool M.none,ι b,ι c] W fun e d=>e=ε (.bool true)/\Hid (∃i Y,i.length<=M.rs.length+1/\QX B d wb {M with rs:=i} {V with rsv:=Y})/\Hid (Below B w d)/\d.cell? ⟨wb,7,none⟩=some V.orv/\d.cell? ⟨wb,8,none⟩=some (.bool M.none)/\d.cell? ⟨w.heap.size,0,none⟩=some ((π l))/\d.cell? ⟨w.heap.size,1,none⟩=some ((π m))/\d.cell? ⟨w.heap.size+1,2,none⟩=some (ι b)/\d.cell? ⟨w.heap.size+1,3,none⟩=some (ι c)):=fun W k=>by
  have o:=Q9 v.out k;refine(u.out W o).mono ?_;rintro e d ⟨r1,L,Q,K⟩;have H:=(f.out.below k).save K.out (fun E=>by have:=r.out _ E;omega);have N:=(g.out.below k).save K.out (fun E=>by have:=r.out _ E;omega);obtain⟨i,y,_,j⟩:=L.out;have J:=j.bx;exact⟨r1,L,(o.mono z).trans Q.out,by rw[J.rules.1];rfl,by rw[J.rules.1];rfl,by rw[H.rules.1];rfl,by rw[H.rules.1];rfl,by rw[N.rules.1];rfl,by rw[N.rules.1];rfl⟩
 clear f g u n;go_region_held3 (fun d=>d.cell? ⟨wb,7,none⟩=some V.orv/\d.cell? ⟨wb,8,none⟩=some (.bool M.none)/\d.cell? ⟨w.heap.size,0,none⟩=some ((π l))/\d.cell? ⟨w.heap.size,1,none⟩=some ((π m))/\d.cell? ⟨w.heap.size+1,2,none⟩=some (ι b)/\d.cell? ⟨w.heap.size+1,3,none⟩=some (ι c)) (first|go_keep|(go_simp;done)) (go_at_call 17;refine(F.out _ (by exact(by repeat'(first|with_reducible(first|apply zR|assumption|apply zN|apply zA|apply zD|apply zS)|go_size)))).mono ?_;rintro e w5 ⟨rfl,D,A,z1,z2,z3,z4,z5,z6⟩)
 all_goals
  go_wp2;go_ret;obtain⟨i,y,q,j⟩:=D.out;exact⟨rfl,⟨_,_,⟨by simp,q,by simp,by simp,by simp⟩,j⟩,A⟩
theorem IL(B:Nat)(w:World)(wb:Nat)(M:OM)(V:OV)(h:QX B w wb M V)(r:lq)(p:r∈M.rs)(a b c:Int)(s:ByteArray):
  Calls prog 97 #[(π wb),.agg #[.pointer (some ⟨r.1,0,none⟩),.pointer (some ⟨r.2.1,0,none⟩),.pointer (some ⟨r.2.2,0,none⟩)],.agg #[ι 11,ι a,ι b,ι c,.string s]] w fun e g=>uR B w wb M e g:=by
 have i:Hid (∀W,μ w W->Calls prog 20 #[.agg #[.pointer (some ⟨r.1,0,none⟩),.pointer (some ⟨r.2.1,0,none⟩),.pointer (some ⟨r.2.2,0,none⟩)]] W fun e g=>e=ε (.bool true)/\Hid (μ W g)):=fun W t=>by
  obtain⟨A,z,x,u,d,n,k,m,o,l,j⟩:=(h.below t).ress r p;exact FK W _ _ _ A z x u d n k m o l j
 have y:=Q5 h;clear h p;generalize r.1=o at *;generalize r.2.1=l at *;generalize r.2.2=j at *;go_enter func97,ntmps97;go_wp2_with (go_at_call 20;refine(i.out _ (by exact(by repeat'(first|with_reducible(first|apply zR|assumption|apply zN|apply zA|apply zD|apply zS)|go_size)))).mono ?_;rintro e v ⟨rfl,f⟩)
 go_ret;have q:μ w v:=zQ (show μ w _ from(by repeat'(first|with_reducible(first|apply zR|assumption|apply zN|apply zA|apply zD|apply zS)|go_size))) f.out (zg _);exact uR.kept y.out q
theorem ES(w:World)(wb:Nat)(k a b c:Int)(s:ByteArray)(f:k=7∨k=11):
  Calls prog 94 #[(π wb),.agg #[ι k,ι a,ι b,ι c,.string s]] w fun e d=>e=ε (.bool false)/\μ w d:=by
 rcases f with rfl|rfl
 all_goals
  go_enter func94,ntmps94;go_wp2;go_ret;exact⟨rfl,(by repeat'(first|with_reducible(first|apply zR|assumption|apply zN|apply zA|apply zD|apply zS)|go_size))⟩
theorem Bd:∀(rs:List lq) (k:Nat) (a:k<rs.length),(kK rs)[k*3]?=some (.pointer (some ⟨rs[k].1,0,none⟩))/\(kK rs)[k*3+1]?=some (.pointer (some ⟨rs[k].2.1,0,none⟩))/\(kK rs)[k*3+2]?=some (.pointer (some ⟨rs[k].2.2,0,none⟩))
 |[],k,a=>by simp at a
 |p::r,0,_=>by simp[kK]
 |p::r,k+1,a=>by
  have:=Bd r k (by simpa using a);simp only[kK,uw] at this ⊢;rw[show(k+1)*3=k*3+1+1+1 from by omega];simpa using this
section
variable {B:Nat} {w:World} {wb:Nat} {M:OM} {V:OV} {a b c:Int} {s:ByteArray}
theorem n8{k:Int}(i:B<=w.heap.size)(h:Hid (∀W,μ w W->Calls prog 94 #[(π wb),.agg #[ι k,ι a,ι b,ι c,.string s]] W fun e g=>uR B W wb M e g)):
  Calls prog 57 #[(π wb),.agg #[ι k,ι a,ι b,ι c,.string s]] w fun e g=>uR B w wb M e g:=by
 go_enter func57,ntmps57;go_wp2_with (go_at_call 94;refine(h.out _ (by exact(by repeat'(first|with_reducible(first|apply zR|assumption|apply zN|apply zA|apply zD|apply zS)|go_size)))).mono ?_;rintro e j ⟨rfl,d,f⟩)
 go_ret;exact⟨rfl,d,(Below.mono (w:=w) (by repeat'(first|with_reducible(first|apply zR|assumption|apply zN|apply zA|apply zD|apply zS)|go_size)) i).trans f.out⟩
theorem GA(h:QX B w wb M V)(hs:s.size<=1048576)(k:M.ps.length<=1048576):
  Calls prog 57 #[(π wb),.agg #[ι 1,ι a,ι b,ι c,.string s]] w fun e p=>uR B w wb M e p:=by
 have r:=h.size;have q:=Q5 fun W=>ID W wb a b c s;have m:=Q5 fun W (o:μ w W)=>LO B W wb M V s (h.below o) hs k;clear h;go_enter func57,ntmps57;go_wp2_with (first|(go_at_call 94;refine(q.out _).mono ?_;rintro e u ⟨rfl,g⟩;have d:=(Q6.new w #[ι 1,ι a,ι b,ι c,.string s] 67).below g;obtain⟨t,n,l⟩:=d.boxed;have f:=Q9 ((zo w.heap.size w).alloc (zg _) (.cells #[ι 1,ι a,ι b,ι c,.string s] 67)) g)|(go_at_call 16;refine(m.out _ (by exact f)).mono ?_;rintro e v ⟨rfl,j,i⟩))
 go_ret;exact⟨rfl,j,(f.mono r).trans i.out⟩
theorem Ml(h:QX B w wb M V)(ha:-9223372036854775808<=a/\a<=9223372036854775807)(hb:RD b)(hc:RD c)(hn:M.ps.length<=1048576)(hr:M.rs.length<=1048576)(N:M.ord.length<=1048577):
  Calls prog 57 #[(π wb),.agg #[ι 7,ι a,ι b,ι c,.string s]] w fun e k=>uR B w wb M e k:=by
 have C:=Q5 h;have hB:=h.size;obtain⟨O,ag,X,ah,ac,ad⟩:=V;have m:=h.bx;have j:w.ownsRow B 40 2 O M.ps.length (kG M.ps):=h.ops;obtain⟨af,r,rfl⟩:=zp j;have y:=Q5 fun W=>ES W wb 7 a b c s (zf rfl);clear h;by_cases l:0<M.ps.length
 ·obtain⟨i,q⟩:∃i,i=kh a M.ps.length:=⟨_,rfl⟩;have v:i<M.ps.length:=by rw[q];exact mh a l
  have L:Hid (∀W:World,Calls prog 95 #[ι a,ι M.ps.length] W fun e k=>e=ε (ι (i:Int))/\k=W):=fun W=>by rw[q];exact mj W a M.ps.length l (by omega) ha
  clear q;obtain⟨D,T,Z,_,u,p⟩:=yv j (by omega);simp only[Value.slice.injEq] at Z;obtain⟨rfl,_,rfl⟩:=Z;obtain⟨x,A⟩:=Cc M.ps i v;have z:=p _ _ x;have t:=p _ _ A;have R:=Q5 fun W (hW:μ w W)=>FC B W wb M _ (C.out.below hW) M.ps[i] (zs v) a b c s hb hc hr N;clear x A C j p;generalize M.ps[i].1=q1 at *;generalize M.ps[i].2.1=q2 at *;generalize H:M.ps.length=n at *;clear H;go_enter func57,ntmps57;go_wp2_with (go_at_call 94;refine(y.out _).mono ?_;rintro e E ⟨rfl,g⟩;have o:=(Q6.new w #[ι _,ι a,ι b,ι c,.string s] 67).below g;obtain⟨K,G,S⟩:=o.boxed;have d:μ w E:=zQ (by repeat'(first|with_reducible(first|apply zR|assumption|apply zN|apply zA|apply zD|apply zS)|go_size)) g (zg _);have f:=m.below d;obtain⟨J,P,U⟩:=f.boxed;have ae:=zl d u z;have aa:=zl d u t;have ab:=d.size;have Y:D<E.heap.size:=(by omega))
  go_region_held3 (fun k=>k.cell? ⟨wb,0,none⟩=some (.slice (some ⟨D,0,none⟩) n r)/\k.cell? ⟨w.heap.size,1,none⟩=some (ι a)/\k.cell? ⟨D,i*2,none⟩=some ((π q1))/\k.cell? ⟨D,i*2+1,none⟩=some ((π q2))) (go_keep) (go_at_call 95;refine(L.out _).mono ?_;rintro e k ⟨rfl,F⟩;obtain rfl:=F.symm)
  all_goals
   go_wp2_with (go_at_call 96;refine(R.out _ (by exact(by repeat'(first|with_reducible(first|apply zR|assumption|apply zN|apply zA|apply zD|apply zS)|go_size)))).mono ?_;rintro e w3 ⟨rfl,Q,I⟩)
   go_ret;exact⟨rfl,Q,(Below.mono (w:=w) (by repeat'(first|with_reducible(first|apply zR|assumption|apply zN|apply zA|apply zD|apply zS)|go_size)) hB).trans I.out⟩
 ·have h0:M.ps.length=0:=by omega
  have HK:Hid (∀W,μ w W->uR B w wb M (ε (.bool true)) W):=fun W=>uR.kept C.out;clear C j;rw[h0] at m;go_enter func57,ntmps57;go_wp2_with (go_at_call 94;refine(y.out _).mono ?_;rintro e E ⟨rfl,g⟩;have o:=(Q6.new w #[ι _,ι a,ι b,ι c,.string s] 67).below g;obtain⟨K,G,S⟩:=o.boxed;have d:μ w E:=zQ (by repeat'(first|with_reducible(first|apply zR|assumption|apply zN|apply zA|apply zD|apply zS)|go_size)) g (zg _);have f:=m.below d;obtain⟨J,P,U⟩:=f.boxed)
  go_ret;exact HK.out _ d
theorem Nu(h:QX B w wb M V)(ha:-9223372036854775808<=a/\a<=9223372036854775807)(hn:M.rs.length<=1048576):
  Calls prog 57 #[(π wb),.agg #[ι 11,ι a,ι b,ι c,.string s]] w fun e j=>uR B w wb M e j:=by
 have F:=Q5 h;have hB:=h.size;obtain⟨af,Q,Y,ai,ad,ae⟩:=V;have o:=h.bx;have k:w.ownsRow B 50 3 Q M.rs.length (kK M.rs):=h.ors;obtain⟨ah,t,rfl⟩:=zp k;have z:=Q5 fun W=>ES W wb 11 a b c s (zb rfl);clear h;by_cases m:0<M.rs.length
 ·obtain⟨f,r⟩:∃f,f=kh a M.rs.length:=⟨_,rfl⟩;have x:f<M.rs.length:=by rw[r];exact mh a m
  have N:Hid (∀W:World,Calls prog 95 #[ι a,ι M.rs.length] W fun e j=>e=ε (ι (f:Int))/\j=W):=fun W=>by rw[r];exact mj W a M.rs.length m (by omega) ha
  clear r;obtain⟨A,U,hv,_,p,l⟩:=yv k (by omega);simp only[Value.slice.injEq] at hv;obtain⟨rfl,_,rfl⟩:=hv;obtain⟨y,E,D⟩:=Bd M.rs f x;have C:=l _ _ y;have u:=l _ _ E;have v:=l _ _ D;have R:=Q5 fun W (hW:μ w W)=>IL B W wb M _ (F.out.below hW) M.rs[f] (zs x) a b c s;clear y E D F k l;generalize M.rs[f].1=q1 at *;generalize M.rs[f].2.1=q2 at *;generalize M.rs[f].2.2=q3 at *;generalize J:M.rs.length=n at *;clear J;go_enter func57,ntmps57;go_wp2_with (go_at_call 94;refine(z.out _).mono ?_;rintro e G ⟨rfl,i⟩;have q:=(Q6.new w #[ι _,ι a,ι b,ι c,.string s] 67).below i;obtain⟨L,I,S⟩:=q.boxed;have d:μ w G:=zQ (by repeat'(first|with_reducible(first|apply zR|assumption|apply zN|apply zA|apply zD|apply zS)|go_size)) i (zg _);have g:=o.below d;obtain⟨X,O,T⟩:=g.boxed;have ag:=zl d p C;have aa:=zl d p u;have ab:=zl d p v;have ac:=d.size;have Z:A<G.heap.size:=(by omega))
  go_region_held3 (fun j=>j.cell? ⟨wb,1,none⟩=some (.slice (some ⟨A,0,none⟩) n t)/\j.cell? ⟨w.heap.size,1,none⟩=some (ι a)/\j.cell? ⟨A,f*3,none⟩=some ((π q1))/\j.cell? ⟨A,f*3+1,none⟩=some ((π q2))/\j.cell? ⟨A,f*3+2,none⟩=some ((π q3))) (go_keep) (go_at_call 95;refine(N.out _).mono ?_;rintro e j ⟨rfl,H⟩;obtain rfl:=H.symm)
  all_goals
   go_wp2_with (go_at_call 97;refine(R.out _ (by exact(by repeat'(first|with_reducible(first|apply zR|assumption|apply zN|apply zA|apply zD|apply zS)|go_size)))).mono ?_;rintro e w3 ⟨rfl,P,K⟩)
   go_ret;exact⟨rfl,P,(Below.mono (w:=w) (by repeat'(first|with_reducible(first|apply zR|assumption|apply zN|apply zA|apply zD|apply zS)|go_size)) hB).trans K.out⟩
 ·have h0:M.rs.length=0:=by omega
  have HK:Hid (∀W,μ w W->uR B w wb M (ε (.bool true)) W):=fun W=>uR.kept F.out;clear F k;rw[h0] at o;go_enter func57,ntmps57;go_wp2_with (go_at_call 94;refine(z.out _).mono ?_;rintro e G ⟨rfl,i⟩;have q:=(Q6.new w #[ι _,ι a,ι b,ι c,.string s] 67).below i;obtain⟨L,I,S⟩:=q.boxed;have d:μ w G:=zQ (by repeat'(first|with_reducible(first|apply zR|assumption|apply zN|apply zA|apply zD|apply zS)|go_size)) i (zg _);have g:=o.below d;obtain⟨X,O,T⟩:=g.boxed)
  go_ret;exact HK.out _ d
end
theorem OC(B:Nat)(w:World)(wb:Nat)(M:OM)(V:OV)(x:R7)(h:QX B w wb M V)(d:dC [1,7,11] x.kind)(r:S9 x)(hs:x.s.size<=1048576)(l:M.ps.length<=1048576)(n:M.rs.length<=1048576)(o:M.row.length<=1048576)(t:M.ins.length<=1048576)(u:M.ord.length<=1048576):
  Calls prog 57 #[(π wb),.agg #[ι x.kind,ι x.a,ι x.b,ι x.c,.string x.s]] w fun e m=>uR B w wb M e m:=by
 obtain⟨i,j,k⟩:=r;have g:=h.size;rcases d with d|d|d|d
 ·have d:x.kind=2∨x.kind=3∨x.kind=4∨x.kind=5∨x.kind=6:=by omega
  rcases d with d|d|d|d|d<;>rw[d]
  ·exact n8 g fun W f=>GU B W wb M V _ _ _ _ (h.below f) hs (by omega)
  ·exact n8 g fun W f=>Oa B W wb M V _ _ _ _ (h.below f) (by omega) i j
  ·exact n8 g fun W f=>P2 B W wb M V _ _ _ _ (h.below f) ⟨i,j,k⟩
  ·exact n8 g fun W f=>FM B W wb M V _ _ _ _ (h.below f) i (by omega) (by omega)
  ·exact n8 g fun W f=>G0 B W wb M V _ _ _ _ (h.below f)
 ·rw[d];exact n8 g fun W f=>Kp B W wb M V _ _ _ _ (h.below f) o
 ·rw[d];exact n8 g fun W f=>(Ga W wb _ _ _ _ _ _ _ _ _ _ _ _ _ _ _ _ _ (h.below f).bx).mono fun e m q=>by obtain⟨rfl,p⟩:=q;exact uR.kept (h.below f) p
 ·simp only[zx,ff,or_false] at d;rcases d with d|d|d<;>rw[d]
  ·exact GA h hs l
  ·exact Ml h i j k l n (by omega)
  ·exact Nu h i n
end
end Go.Proofs.YteampbddflhngaaGreat
