import Derived.Test.YteampbddflhngaaGreatZ26
import Derived.Test.YteampbddflhngaaGreatZ36
namespace Go.Proofs.YteampbddflhngaaGreat
set_option linter.all false
set_option maxRecDepth 100000
set_option maxHeartbeats 4000000
open Go.RowKit
section
section
variable {B:Nat} {w w3:World} {wb:Nat} {M:OM} {V:OV}
theorem mN.more{b:List fY}{o:pF}(h:mN b o){a:List fY}(d:∀x∈b,∃y∈a,y.1=x.1/\y.2.2.length=x.2.2.length):mN a o:=by
 match o,h with
 |none,_=>trivial
 |some (g,f,n,m),⟨x,i,k,j⟩=>
  obtain⟨y,e,c,l⟩:=d x i;exact⟨y,e,by rw[c,k],by rw[l];exact j⟩
theorem QZ.addI(h:QZ B w wb M V){ga gb:Nat}{l:List Int}{v1 v2:Value}(m:ze (wb::(V.inv.ownBlock.toList++V.iwv.ownBlock.toList)) w w3)(a:Q8 w3 wb (kE M {V with inv:=v1,iwv:=v2}) 35)(C:w3.ownsRow B 24 1 v1 (M.ins.length+1) (xt M.ins++[sl ga l.length]))(y:w3.ownsRow B 24 1 v2 (M.ins.length+1) (uC M.ins++[sl gb l.length]))(j:v1.ownBlock=V.inv.ownBlock∨∃g,v1.ownBlock=some g/\w.heap.size<=g)(k:v2.ownBlock=V.iwv.ownBlock∨∃g,v2.ownBlock=some g/\w.heap.size<=g)(u:∀b,v1.ownBlock=some b->v2.ownBlock≠some b)(O:w.heap.size<=ga)(R:w.heap.size<=gb)(L:ga≠gb)(U:Q8 w3 ga (xY l) 3)(Q:Q8 w3 gb (xY l) 3)(P:l.length<=1048576):QZ B w3 wb {M with ins:=M.ins++[(ga,gb,l)]} {V with inv:=v1,iwv:=v2}/\Below B w w3:=by
 have J:∀b∈wb::(V.inv.ownBlock.toList++V.iwv.ownBlock.toList),b∈yK wb V M.ins:=fun b a=>by
  simp only[yK,zx,zI] at a ⊢;rcases a with a|a|a<;>simp[a]
 have i:∀b∈yK wb {V with inv:=v1,iwv:=v2} (M.ins++[(ga,gb,l)]),b∈yK wb V M.ins∨w.heap.size<=b:=fun b a=>by
  simp only[yK,uP,xH,List.map_nil,zx,zI,fG,or_false] at a ⊢;rcases a with a|a|a|a|a|a|a|(a|a)|a|a
  ·exact zf (zf a)
  ·exact zf (zb (zf a))
  ·exact zf (zb (zb (zf a)))
  ·exact zf (zb (zb (zb (zf a))))
  ·rcases lX (j.imp_right zb) a with q|q
   ·exact zf (zb (zb (zb (zb (zf q)))))
   ·exact zb q
  ·rcases lX (k.imp_right zb) a with q|q
   ·exact zf (zb (zb (zb (zb (zb (zf q))))))
   ·exact zb q
  ·exact zf (zb (zb (zb (zb (zb (zb (zf a)))))))
  ·exact zf (zb (zb (zb (zb (zb (zb (zb (zf a))))))))
  ·exact zb (by omega)
  ·exact zf (zb (zb (zb (zb (zb (zb (zb (zb a))))))))
  ·exact zb (by omega)
 have K:=h.rest (M':={M with ins:=M.ins++[(ga,gb,l)]}) m J i;have t:∀{T:TypeId},35≠T->24≠T->NT w T (wb::(V.inv.ownBlock.toList++V.iwv.ownBlock.toList)):=fun q I=>NT.cons h.box q ((NT.own h.oin I).app (NT.own h.oiw I));have z:=qa.1 h.dis3;have E:=qa.1 z.2.1;have A:∀b,V.orv.ownBlock=some b->b∉wb::(V.inv.ownBlock.toList++V.iwv.ownBlock.toList):=fun b F i=>by
  have n:b∈V.orv.ownBlock.toList:=by simp[F]
  rcases zx.1 i with rfl|i
  ·exact uB h.oor h.box (by decide) F rfl
  ·rcases zI.1 i with i|i
   ·exact z.2.2 b i b (zI.2 (zb n)) rfl
   ·exact E.2.2 b i b n rfl
 have s:∀x∈M.ins,x.1<w.heap.size/\x.2.1<w.heap.size:=fun x f=>⟨(h.ints x f).one.lt,(h.ints x f).two.lt⟩;have r:∀b∈V.orv.ownBlock.toList,b<w.heap.size:=fun b a=>xI h.oor (yr a);have p:∀v:Value,v.ownBlock.toList.Nodup:=fun v=>by cases v.ownBlock<;>simp
 refine⟨⟨h.low,a,yJ h.ops m (t (by decide) (by decide)),yJ h.ors m (t (by decide) (by decide)),yJ h.reg m (t (by decide) (by decide)),?_,?_,yT h.oor m A,fun x f=>?_,?_,?_,fun o S=>(h.win o S).more fun x f=>⟨x,zI.2 (zf f),rfl,rfl⟩,h.num,K.1,K.2⟩,h.down m J⟩
 ·show World.ownsRow _ _ _ _ v1 (M.ins++[(ga,gb,l)]).length (xt (M.ins++[(ga,gb,l)]));rw[show xt (M.ins++[(ga,gb,l)])=xt M.ins++[sl ga l.length] from by simp[xt],yq];exact C
 ·show World.ownsRow _ _ _ _ v2 (M.ins++[(ga,gb,l)]).length (uC (M.ins++[(ga,gb,l)]));rw[show uC (M.ins++[(ga,gb,l)])=uC M.ins++[sl gb l.length] from by simp[uC],yq];exact y
 ·rcases zI.1 f with f|f
  ·exact(h.ints x f).save m (t (by decide) (by decide))
  ·rw[xG.1 f];have:=h.size;exact⟨⟨by show B<=ga;omega,by show B<=gb;omega⟩,U,Q,P⟩
 ·refine qa.2 ⟨p _,qa.2 ⟨p _,E.2.1,fun b a c d e=>?_⟩,fun b a c d e=>?_⟩
  ·subst e;rcases lX (k.imp_right zb) a with q|q
   ·exact E.2.2 b q b d rfl
   ·have:=r b d;omega
  ·subst e;rcases zI.1 d with d|d
   ·exact u b (yr a) (yr d)
   ·rcases lX (j.imp_right zb) a with q|q
    ·exact z.2.2 b q b (zI.2 (zb d)) rfl
    ·have:=r b d;omega
 ·have N:=h.disI;rw[uP,uP];simp only[xH,List.map_nil];have D:=qa.1 N;have H:∀b∈M.ins.map (·.1),b<w.heap.size:=fun b a=>by obtain⟨x,f,rfl⟩:=z7.1 a;exact(s x f).1
  have G:∀b∈M.ins.map (·.2.1),b<w.heap.size:=fun b a=>by obtain⟨x,f,rfl⟩:=z7.1 a;exact(s x f).2
  refine qa.2 ⟨qa.2 ⟨D.1,by simp,fun b a c d e=>?_⟩,qa.2 ⟨D.2.1,by simp,fun b a c d e=>?_⟩,fun b a c d e=>?_⟩
  ·have:=H b a;simp at d;omega
  ·have:=G b a;simp at d;omega
  ·subst e;rcases zI.1 a with a|a<;>rcases zI.1 d with d|d
   ·exact D.2.2 b a b d rfl
   ·have:=H b a;simp at d;omega
   ·have:=G b d;simp at a;omega
   ·simp at a d;omega
theorem ek(l:List Int)(i:Nat)(c:Int):(xY l).setIfInBounds i (ι c)=xY (l.set i c):=by simp[xY,List.map_set]
theorem QZ.write(h:QZ B w wb M V){k:Nat}(p:k<M.ins.length)(i:Nat)(c:Int):QZ B ((w.setCell ⟨M.ins[k].1,i,none⟩ (ι c)).setCell ⟨M.ins[k].2.1,i,none⟩ (ι c)) wb {M with ins:=M.ins.set k (M.ins[k].1,M.ins[k].2.1,M.ins[k].2.2.set i c)} V/\Below B w ((w.setCell ⟨M.ins[k].1,i,none⟩ (ι c)).setCell ⟨M.ins[k].2.1,i,none⟩ (ι c)):=by
 obtain⟨x,a⟩:∃x,x=M.ins[k]:=⟨_,rfl⟩;rw[←a];have n:x∈M.ins:=by rw[a];exact zs p
 have A:(M.ins.set k (x.1,x.2.1,x.2.2.set i c)).map (·.1)=M.ins.map (·.1):=sm p (by rw[a]);have D:(M.ins.set k (x.1,x.2.1,x.2.2.set i c)).map (·.2.1)=M.ins.map (·.2.1):=sm p (by rw[a]);have H:xt (M.ins.set k (x.1,x.2.1,x.2.2.set i c))=xt M.ins:=sm p (by rw[a];simp);have I:uC (M.ins.set k (x.1,x.2.1,x.2.2.set i c))=uC M.ins:=sm p (by rw[a];simp);have L:yK wb V (M.ins.set k (x.1,x.2.1,x.2.2.set i c))=yK wb V M.ins:=by unfold yK;rw[A,D]
 have f:ze [x.1,x.2.1] w ((w.setCell ⟨x.1,i,none⟩ (ι c)).setCell ⟨x.2.1,i,none⟩ (ι c)):=((ze.set w x.1 i _).more (fun b m=>by simp at m;simp[m])).trans ((ze.set _ x.2.1 i _).more (fun b m=>by simp at m;simp[m]));have C:∀b∈[x.1,x.2.1],b∈yK wb V M.ins:=fun b m=>by
  simp only[yK,zx,zI,z7,fG,or_false] at m ⊢;rcases m with rfl|rfl
  ·exact zb (zb (zb (zb (zb (zb (zb (zf ⟨x,n,rfl⟩)))))))
  ·exact zb (zb (zb (zb (zb (zb (zb (zb ⟨x,n,rfl⟩)))))))
 have E:=h.rest (M':={M with ins:=M.ins.set k (x.1,x.2.1,x.2.2.set i c)}) (V':=V) f C (fun b q=>zf (by rw[L] at q;exact q));have s:=h.ints x n;have r:∀{T:TypeId},3≠T->NT w T [x.1,x.2.1]:=fun q=>NT.cons s.one q (NT.cons s.two q NT.nil);have u:=qa.1 h.disI;have t:x.1≠x.2.1:=u.2.2 _ (z7.2 ⟨x,n,rfl⟩) _ (z7.2 ⟨x,n,rfl⟩);refine⟨⟨h.low,h.box.save f ((r (by decide)).not h.box),yJ h.ops f (r (by decide)),yJ h.ors f (r (by decide)),yJ h.reg f (r (by decide)),?_,?_,yJ h.oor f (r (by decide)),fun y z=>?_,h.dis3,?_,fun o N=>(h.win o N).more fun y z=>?_,h.num,E.1,E.2⟩,h.down f C⟩
 ·show World.ownsRow _ _ _ _ V.inv (M.ins.set k _).length (xt (M.ins.set k _));rw[H,fh];exact yJ h.oin f (r (by decide))
 ·show World.ownsRow _ _ _ _ V.iwv (M.ins.set k _).length (uC (M.ins.set k _));rw[I,fh];exact yJ h.oiw f (r (by decide))
 ·obtain⟨j,v,rfl⟩:=vw.1 z;rw[lO];have g:j<M.ins.length:=by simpa using v
  split
  ·refine⟨s.low,?_,?_,by simpa using s.len⟩
   ·have:=(s.one.set i (ι c)).set_ne t i (ι c);rw[ek] at this;exact this
   ·have:=(s.two.set_ne (Ne.symm t) i (ι c)).set i (ι c);rw[ek] at this;exact this
  ·rename_i d;have l:=h.ints _ (zs g);have F:M.ins[j].1≠x.1:=fun e=>d (by
    have:=(List.getElem_inj (xs:=M.ins.map (·.1)) (i:=k) (j:=j) (h₀:=by simpa using p) (h₁:=by simpa using g) u.1).1 (by simp only[uJ];rw[←a,e]);exact this)
   have J:M.ins[j].2.1≠x.2.1:=fun e=>d (by
    have:=(List.getElem_inj (xs:=M.ins.map (·.2.1)) (i:=k) (j:=j) (h₀:=by simpa using p) (h₁:=by simpa using g) u.2.1).1 (by simp only[uJ];rw[←a,e]);exact this)
   have G:M.ins[j].1≠x.2.1:=u.2.2 _ (z7.2 ⟨_,zs g,rfl⟩) _ (z7.2 ⟨x,n,rfl⟩);have K:x.1≠M.ins[j].2.1:=u.2.2 _ (z7.2 ⟨x,n,rfl⟩) _ (z7.2 ⟨_,zs g,rfl⟩);exact⟨l.low,l.one.save f (by simp[F,G]),l.two.save f (by simp[J,Ne.symm K]),l.len⟩
 ·show((M.ins.set k _).map (·.1)++(M.ins.set k _).map (·.2.1)).Nodup;rw[A,D];exact h.disI
 ·obtain⟨j,v,rfl⟩:=vw.1 z;by_cases d:k=j
  ·subst d;exact⟨_,vw.2 ⟨k,by simpa using v,rfl⟩,by simp[a],by simp[a]⟩
  ·exact⟨_,vw.2 ⟨j,by simpa using v,rfl⟩,by simp[d],by simp[d]⟩
end
end
section
open Go.Proofs.Tryz
theorem C9{α β:Type}{P:α->β->Prop}:∀(l:List α),(∀x∈l,∃y,P x y)->∃r:List β,r.length=l.length/\∀k (a:k<l.length) (b:k<r.length),P l[k] r[k]
 |[],_=>⟨[],rfl,fun k a=>by simp at a⟩
 |x::l,h=>by
  obtain⟨y,f⟩:=h x (by simp);obtain⟨r,a,b⟩:=C9 l (fun z c=>h z (by simp[c]));refine⟨y::r,by simp[a],fun k e d=>?_⟩;cases k with
  |zero=>exact f
  |succ k=>exact b k (by simpa using e) (by simpa using d)
section
variable {B:Nat} {w:World} {wb:Nat} {M:OM} {V:OV}
theorem QZ.os(h:QZ B w wb M V):∃b:List (Option (List Int)),b.length=(M.ord.map jT).length/\∀k (q:k<(M.ord.map jT).length) (s:k<b.length),uA w (M.ord.map jT)[k] b[k]/\(b[k].getD []).length<=1048576:=by
 refine C9 (P:=fun v o=>uA w v o/\(o.getD []).length<=1048576) _ fun v e=>?_;obtain⟨o,p,rfl⟩:=z7.1 e;have l:=h.win o p;match o,l with
 |none,_=>exact⟨none,rfl,zv _⟩
 |some (g,f,n,i),⟨x,m,j,r⟩=>
  subst j;have d:=h.ints x m;have a:((x.2.2.drop f).take n).length=n:=by simp;omega
  refine⟨some ((x.2.2.drop f).take n),⟨x.1,f,n+i,by rw[a];rfl,d.one.lt,fun k t=>?_⟩,by have:=d.len;rw[ux,a];omega⟩;rw[d.one.rules.1];have c:f+k<x.2.2.length:=by omega
  simp[xY,c]
structure iW (w:World) (orv:Value) (nb:Bool) (os:Option (List (Option (List Int)))):Prop where
 len:(os.getD []).length<=2000000
 each:∀o∈os.getD [],(o.getD []).length<=2000000
 hand:∀W,μ w W->Calls Tryz.prog 34 #[orv,.bool nb] W fun e w'=>∃hv,e=.returned hv/\Hid (jF w' hv os/\∀W2,μ w' W2->Calls Tryz.prog 36 #[hv,orv,.bool nb] W2 fun e w3=>e=ε (.bool true)/\Hid (μ W2 w3))/\Hid (μ W w')
 ord:∀W,μ w W->∀mb cs t lo,jS lo W mb cs t->(∀c∈cs,c.body.length<=999/\yS (zk c)<=1000/\(zw c).length<=5/\∀l∈zk c,∀t∈l.args,0<t.size)->cs.length<=1000->Calls Tryz.prog 75 #[(π mb),orv,.bool nb] W fun e w'=>e=ε (.bool (vq cs os))/\μ W w'
theorem QZ.hand(h:QZ B w wb M V)(N:M.ord.length<=1048577):∃b,iW w V.orv M.none b:=by
 cases S:M.none with
 |true=>
  exact⟨none,zv _,(fun o c=>by cases c),fun W _=>(LG W _).mono fun e G ⟨x,D⟩=>by
   subst D;exact⟨_,x,⟨rfl,fun C _=>(La C _ _).mono fun e T ⟨R,Q⟩=>by subst Q;exact⟨R,zo _ _⟩⟩,zo _ _⟩,fun W _ I H t K _ _ _=>(If W _ _).mono fun e G ⟨x,D⟩=>by subst D;exact⟨x,zo _ _⟩⟩
 |false=>
  obtain⟨b,E,m⟩:=h.os;have c:=h.oor;rw[show M.ord.length=(M.ord.map jT).length from by simp] at c N;have A:∀v∈M.ord.map jT,v.oneCell'=true:=fun v L=>by
   obtain⟨o,_,rfl⟩:=z7.1 L;match o with
   |none=>rfl
   |some (g,f,n,U)=>rfl
  generalize M.ord.map jT=p at *;have l:∀o∈b,(o.getD []).length<=2000000:=fun o J=>by
   obtain⟨k,z,rfl⟩:=vw.1 J;have:=(m k (by omega) z).2;omega
  refine⟨some b,by show b.length<=_;omega,l,fun W j=>?_,fun W j I H t K P y u=>?_⟩
  ·refine(Px W B V.orv p (zB c j) A (by omega)).mono ?_;rintro e G ⟨O,rfl,q,F⟩;have i:=QB j F.out;refine⟨_,rfl,⟨⟨_,0,_,by rw[E],q.out.1.lt,fun k z=>?_⟩,fun C a=>?_⟩,F⟩
   ·refine⟨p[k]'(by omega),?_,((m k (by omega) z).1).below i⟩;rw[q.out.1.rules.1];have:k<p.length:=by omega
    simp[List.getElem?_append_left this]
   ·have d:=QB i a;exact Nl C B V.orv p b _ O (zB c d) (q.out.1.below a) (q.out.2.below a) E (fun k s r=>⟨((m k s r).1).below d,by have:=(m k s r).2;omega⟩) (by omega)
  ·exact FI W I V.orv H t p b P (zB c j) E.symm (fun k s r=>((m k s r).1).below j) l y u
end
def mq(B:Nat)(w:World)(wb:Nat)(M:OM)(V:OV)(e:Ending)(w':World):Prop:=e=ε (.bool true)/\Hid (∃a b,a.length<=M.rs.length+1/\QZ B w' wb {M with rs:=a} {V with rsv:=b})/\Hid (Below B w w')/\Hid (ze (wb::V.rsv.ownBlock.toList) w w')
theorem mq.kept{B:Nat}{w w':World}{wb:Nat}{M:OM}{V:OV}(h:QZ B w wb M V)(a:μ w w'):mq B w wb M V (ε (.bool true)) w':=⟨rfl,⟨M.rs,V.rsv,by omega,h.below a⟩,a.mono h.size,ze.of a⟩
theorem Ac(B:Nat)(w:World)(wb:Nat)(M:OM)(V:OV)(h:QZ B w wb M V){os:Option (List (Option (List Int)))}(v:iW w V.orv M.none os)(x m:Nat)(c o n:Int)(C:n=8∨n=9∨n=10)(E:Hid (∀W p,μ w W->jF W p os->Calls prog 35 #[(π x),p,ι c,ι o] W fun e j=>e=ε (.tuple #[.pointer none,ι n])/\Hid (μ W j)))(l:Hid (∀W,μ w W->Calls prog 37 #[(π m),V.orv,.bool M.none,ι c,ι o] W fun e j=>e=ε (.tuple #[.pointer none,ι n])/\Hid (μ W j))):
  Calls prog 17 #[(π wb),.agg #[(π x),(π m)],V.orv,.bool M.none,ι c,ι o] w fun e j=>mq B w wb M V e j:=by
 have G:=Q7 v.hand;have A:Hid (∀W,μ w W->mq B w wb M V (ε (.bool true)) W):=fun W=>mq.kept h;clear h v;generalize V.orv=z at *;generalize M.none=K at *;rcases C with rfl|rfl|rfl
 all_goals
  go_enter func17,ntmps17;go_upto_region 1 with fail
  have i:Hid (μ w (w.alloc (.cells #[(π x),(π m)] 40))):=(zo _ _).alloc (zg _) _;have d:=Q7 (Q8.new w #[(π x),(π m)] 40);generalize w.alloc (.cells #[(π x),(π m)] 40)=I at *;go_wp2_with (first|(go_at_call 34;refine(G.out _ i.out).mono ?_;rintro e L ⟨p,rfl,t,b⟩;have g:=Q7 (QB i.out b.out);obtain⟨O,_,D⟩:=(d.out.below b.out).boxed)|(go_at_call 35;refine(E.out _ _ g.out t.out.1).mono ?_;rintro e J ⟨rfl,a⟩;have r:=Q7 (QB g.out a.out);obtain⟨F,_⟩:=((d.out.below b.out).below a.out).rules;have u:=((d.out.below b.out).below a.out).lt)|(go_at_call 36;refine(t.out.2 _ a.out).mono ?_;rintro e H ⟨rfl,f⟩;have k:=Q7 (QB r.out f.out);obtain⟨y,_⟩:=(((d.out.below b.out).below a.out).below f.out).rules;have s:=(((d.out.below b.out).below a.out).below f.out).lt)|(go_at_call 37;refine(l.out _ k.out).mono ?_;rintro e N ⟨rfl,q⟩))
  go_ret;exact A.out _ (QB k.out q.out)
theorem KJ(B:Nat)(w:World)(wb:Nat)(M:OM)(V:OV)(h:QZ B w wb M V){os:Option (List (Option (List Int)))}(ho:iW w V.orv M.none os)(x m:Nat)(g qw:Int)(L k:Nat)(hn:M.rs.length<=1048576)(HR:Hid (∀W T,μ w W->jF W T os->Calls prog 35 #[(π x),T,ι g,ι qw] W fun e C=>∃D,e=ε (.tuple #[(π D),ι 0])/\Hid (∃m Z nv rv,Q8 C D #[Z,nv,rv,ι L,ι k,ι m] 156/\0<=m)/\Hid (μ W C)))(y:Hid (∀W,μ w W->Calls prog 37 #[(π m),V.orv,.bool M.none,ι g,ι qw] W fun e C=>∃E,e=ε (.tuple #[(π E),ι 0])/\Hid (∃ao A,Q8 C E #[.slice ao L A,ι k] 54)/\Hid (μ W C))):
  Calls prog 17 #[(π wb),.agg #[(π x),(π m)],V.orv,.bool M.none,ι g,ι qw] w fun e C=>mq B w wb M V e C:=by
 obtain⟨i0,hi,U,ab,af⟩:=info_parts Qc;have HH:=Q7 ho.hand;have HW:=Q7 h;have P:=h.size;obtain⟨al,s⟩:∃v,v=V.orv:=⟨_,rfl⟩;obtain⟨nb,r⟩:∃v,v=M.none:=⟨_,rfl⟩;rw[←s,←r] at HH y;rw[←s,←r];clear h ho s r;go_enter func17,ntmps17;go_upto_region 1 with fail
 have G:Hid (μ w (w.alloc (.cells #[(π x),(π m)] 40))):=(zo _ _).alloc (zg _) _;have d:=Q7 (Q8.new w #[(π x),(π m)] 40);generalize w.alloc (.cells #[(π x),(π m)] 40)=wX at *;go_upto_region 9 with (first|(go_at_call 34;refine(HH.out _ G.out).mono ?_;rintro e w1 ⟨T,rfl,R,b⟩;have l:=Q7 (QB G.out b.out);obtain⟨xc,_,O⟩:=(d.out.below b.out).boxed)|(go_at_call 35;refine(HR.out _ _ l.out R.out.1).mono ?_;rintro e w2 ⟨D,rfl,I,a⟩;have t:=Q7 (QB l.out a.out);obtain⟨Y,_⟩:=((d.out.below b.out).below a.out).rules;have N:=((d.out.below b.out).below a.out).lt)|(go_at_call 36;refine(R.out.2 _ a.out).mono ?_;rintro e w3 ⟨rfl,i⟩;have j:=Q7 (QB t.out i.out);obtain⟨aa,_⟩:=(((d.out.below b.out).below a.out).below i.out).rules;have K:=(((d.out.below b.out).below a.out).below i.out).lt)|(go_at_call 37;refine(y.out _ j.out).mono ?_;rintro e Q ⟨E,rfl,H,u⟩))
 have ag:Hid (fx Q (D,E,m)):=by
  obtain⟨mv,Z,nv,rv,r1,r2⟩:=I.out;obtain⟨ao,A,f2⟩:=H.out;exact⟨Z,nv,rv,ao,A,L,k,mv,(r1.below i.out).below u.out,f2,r2⟩
 have n:=Q7 (QB j.out u.out);have f:=Q7 (HW.out.below n.out);have ae:=(((d.out.below b.out).below a.out).below i.out).below u.out;clear I H HR y xc Y aa O N K HH R;obtain⟨xc,_,O⟩:=ae.boxed;obtain⟨wc,wf,ar⟩:=f.out.box.boxed;have c:=f.out.ors;have au:=yc P n.out.size;obtain⟨F,p,q⟩:=zp c;have ak:Q.cell? ⟨wb,1,none⟩=some (.slice F M.rs.length p):=by rw[wc,←q];rfl
 rw[q] at c;clear wc;go_region_law (first|(refine dE Q _ [(π D),(π E),(π m)] 50 rfl (.tmp 65) (.tmp 71) 29 rfl B 50 i0 _ 3 24 underlying29 hi U ab af rfl (by decide) (.slice F M.rs.length p) M.rs.length (kx M.rs) (by simp[Act.eval]) c (by exact(by repeat'(first|with_reducible(first|apply zR|assumption|apply zN|apply zA|apply zD|apply zS)|go_size))) Q.heap.size 1 (by simp[Act.eval]) (by exact Q8.drew (Q8.new _ _ _)) rfl (by simp[Value.oneCell']) (by omega) (by omega) (by omega) ?_;intro v' w5 J z o aj aq;obtain⟨ap,ai,rfl⟩:=zp J;have ac:=f.out.box.save z (qv c f.out.box (by decide));obtain⟨an,am,ah⟩:=ac.boxed))
 all_goals
  rw[←q] at z o;obtain⟨X,S,ad⟩:=f.out.addR ag.out J z o;have l:=Q7 X;have t:=Q7 S;have j:=Q7 ad;go_wp2;go_ret;exact⟨rfl,⟨_,_,by simp,l.out⟩,(n.out.mono P).trans t.out,(ze.of n.out).trans j.out⟩
theorem LS(wb:Nat)(V:OV)(a:List fY):wb∈yK wb V a:=by simp[yK]
theorem Pq(B:Nat)(w:World)(wb:Nat)(M:OM)(V:OV)(h:QZ B w wb M V)(p:lm)(hp:p∈M.ps)(d E:Int)(al:RG d)(ai:RG E)(hn:M.rs.length<=1048576)(am:M.ord.length<=1048577):
  Calls prog 17 #[(π wb),.agg #[.pointer (some ⟨p.1,0,none⟩),.pointer (some ⟨p.2.1,0,none⟩)],V.orv,.bool M.none,ι d,ι E] w fun e w'=>mq B w wb M V e w':=by
 obtain⟨T,N⟩:=h.hand am;unfold RG at al ai;by_cases H:d<0∨1048576<d∨E<0∨1048576<E
 ·exact Ac B w wb M V h N _ _ d E 8 (zf rfl) (fun W J _ _=>(L1 W _ _ d E (by omega) (by omega) H).mono fun e w' ⟨R,F⟩=>by subst F;exact⟨R,zo _ _⟩) (fun W _=>(KY W _ _ d E H).mono fun e w' ⟨R,F⟩=>by subst F;exact⟨R,zo _ _⟩)
 ·obtain⟨n,rfl⟩:∃n:Nat,d=(n:Int):=⟨d.toNat,by omega⟩;obtain⟨o,rfl⟩:∃o:Nat,E=(o:Int):=⟨E.toNat,by omega⟩;have C:n<=1048576:=by omega
  have A:o<=1048576:=by omega
  obtain⟨⟨lo,s,hB,hP,hQ,_,I,ap,ad⟩,x,hx⟩:=h.pairs p hp;obtain⟨t0,f⟩:=M5 hx;have ae:=ad _ (LS wb V M.ins);obtain⟨px,pm,i,t⟩:=p;dsimp only at *;obtain⟨ao,Q,ac,aa,ak,Z,ah⟩:=hQ.read I ae;have K:=hP.same I;have ag:=hQ.same I;have ab:lo<=w.heap.size:=by
   obtain⟨q,_,_,F,_⟩:=K;exact yc q (Nat.le_of_lt F.lt)
  have g:=f.parts.runok.1;have h5:∀c∈i,(zw c).length<=5:=fun c S=>lu (f.parts.many c S);have aj:∀c∈i,c.body.length<=999/\yS (zk c)<=1000/\(zw c).length<=5/\∀l∈zk c,∀t∈l.args,0<t.size:=fun c S=>by
   have h1:=f.body c S;have h2:=(g.sums c S).1;exact⟨by omega,by simpa [yS,zk] using h2,h5 c S,fun l hl a ha=>(f.args c S l hl).2 a ha⟩
  have HO:=fun W (r:μ w W)=>N.ord W r pm i t lo (ag.below r) aj f.len;cases r:vq i T with
  |false=>
   rw[r] at HO;have hk:pA i t T:=⟨g.len,g.names,g.fine,g.sums,g.few,g.vals,g.jl,N.len,N.each,(fun q=>by rw[r] at q;cases q),fun q=>by rw[r] at q;cases q⟩;exact Ac B w wb M V h N _ _ _ _ 9 (zb (zf rfl)) (fun W J j v=>Jy W px i t J T n o (K.below j) v hk r C A) (fun W j=>O8 C A (HO W j))
  |true=>
   rw[r] at HO;obtain⟨hk,X⟩:=f.parts.runos r;have Y:=ea r h5;have u:=fun W (J:Value) (j:μ w W) (v:jF W J T)=>Pt W px hx (K.below j) f.parts (yc ab j.size) J T v r hk X Y n o C A;rw[←Jr f.parts (zq i) none T (ea rfl h5) Y] at u;have G:=fun W (j:μ w W)=>OL (z:=wb) C A (HO W j) (yly t i n o) (fun W2 U=>Iq W2 pm n o ao Q ac aa ak Z i t0 t (xP h.box.lt (QB j U).size) (ah.below (QB j U)) f.parts f.ctx f.len f.names f.low f.body f.args C A f.few);have b:=JL f.parts f.ctx n o;cases hA:z1m (vd t (zq i) none i) n o with
   |none=>
    rw[hA] at b u;have O:yly t i n o=none:=by
     cases hq:yly t i n o with
     |none=>rfl
     |some y=>rw[hq] at b;exact b.elim
    rw[O] at G;exact Ac B w wb M V h N _ _ _ _ 10 (zb (zb rfl)) u G
   |some y=>
    obtain⟨D,ee⟩:=y;rw[hA] at b u;obtain⟨L,kk,O⟩:∃L k,yly t i n o=some (L,k):=by
     cases hq:yly t i n o with
     |none=>rw[hq] at b;exact b.elim
     |some y=>exact⟨y.1,y.2,rfl⟩
    rw[O] at b G;have P:=b.2.card f.ctx;refine KJ B w wb M V h N _ _ _ _ L.length kk hn (fun W J j v=>(u W J j v).mono ?_) (fun W j=>(G W j).mono ?_)
    ·intro e w' q;obtain⟨a,k,rb,m,pv,nv,rv,R,F,q3,q4,q5,q6,q7⟩:=q;obtain rfl:=DA P q4;have af:kk=ee:=b.1;subst q3 af;exact⟨rb,R,⟨m,pv,nv,rv,F,q6⟩,q7⟩
    ·intro e w' q;obtain⟨mb,R,F,q3⟩:=q;obtain⟨fv,_,f2,an,_,f3,_⟩:=F.out;obtain⟨ao,Q,rfl⟩:=zp f3;exact⟨mb,R,⟨ao,Q,f2⟩,q3⟩
end
section
open Go.Proofs.Tryz
variable {M:OM}
structure gj (M M':OM):Prop where
 ps:M'.ps.length<=M.ps.length+1
 rs:M'.rs.length<=M.rs.length+1
 row:M'.row.length<=M.row.length+1
 ins:M'.ins.length<=M.ins.length+1
 ord:M'.ord.length<=M.ord.length+1
theorem gj.refl{a n ex:Int}{nb:Bool}:gj M {M with a:=a,n:=n,ex:=ex,none:=nb}:=⟨by simp,by simp,by simp,by simp,by simp⟩
theorem gj.same:gj M M:=⟨by omega,by omega,by omega,by omega,by omega⟩
theorem gj.term{r:κ}(h:r.length<=M.row.length+1):gj M {M with row:=r}:=⟨by simp,by simp,h,by simp,by simp⟩
def uI(B:Nat)(w:World)(wb:Nat)(M:OM)(e:Ending)(w':World):Prop:=e=ε (.bool true)/\Hid (∃a b,gj M a/\QZ B w' wb a b)/\Hid (Below B w w')
theorem uI.kept{B:Nat}{w b:World}{wb:Nat}{V:OV}(h:QZ B w wb M V)(a:μ w b):uI B w wb M (ε (.bool true)) b:=⟨rfl,⟨M,V,gj.same,h.below a⟩,a.mono h.size⟩
theorem QZ.bx{B:Nat}{w:World}{wb:Nat}{c b a d e f:Value}(h:QZ B w wb M ⟨c,b,a,d,e,f⟩):Q8 w wb #[c,b,d,e,ι M.a,ι M.n,ι M.ex,f,.bool M.none,a,ν,ν,ν,ν] 35:=h.box
theorem Kb(B:Nat)(w:World)(wb:Nat)(M:OM)(V:OV)(s:ByteArray)(h:QZ B w wb M V)(hs:s.size<=1048576)(ag:M.ps.length<=1048576):
  Calls prog 16 #[(π wb),.string s] w fun e w'=>uI B w wb M e w':=by
 have g:s.size<=9223372036854775807:=by omega
 have v:=h.size;have Q:=Q7 h;cases u:xL s with
 |error k=>
  have hk:=Pn u;have l:=Q7 u;clear u h;go_enter func16,ntmps16;go_wp2_with (first|(go_at_call 32;refine(Nr l.out _ g).mono ?_;rintro e w1 ⟨rfl,i⟩)|(go_at_call 33;refine(KK l.out _ g).mono ?_;rintro e G ⟨rfl,f⟩))
  go_ret;exact uI.kept Q.out (QB i f)
 |ok p=>
  obtain⟨cs,t⟩:=p;obtain⟨X,hi,H,D,z⟩:=info_parts Qd;have l:=Q7 u;have n:∀b∈yK wb V M.ins,b<w.heap.size:=fun b hb=>by
   obtain⟨_,c,T,q,_⟩:=h.muts b hb;exact q.lt
  have K:=Q7 n;obtain⟨F,ae,O,af,ah,aa⟩:=V;have d:w.ownsRow B 40 2 F M.ps.length (kZ M.ps):=h.ops;obtain⟨L,r,rfl⟩:=zp d;clear u n h d;go_enter func16,ntmps16;go_wp2_with (first|(go_at_call 32;refine(J3 l.out _ g).mono ?_;rintro e w1 ⟨R,rfl,E,i⟩)|(go_at_call 33;refine(Nk l.out _ g).mono ?_;rintro e G ⟨U,rfl,J,f⟩;have m:=QB i f;have a:=Q7 (Q.out.below m);have j:G.ownsRow B 40 2 (.slice L M.ps.length r) M.ps.length (kZ M.ps):=a.out.ops;obtain⟨ad,ab,S⟩:=a.out.bx.boxed;have N:=m.size)|(at_builtin;refine kH G _ [(π R),(π U)] _ rfl (.tmp 35) (.tmp 39) 28 rfl B 40 X _ 2 16 underlying28 hi H D z rfl (by decide) _ _ _ rfl j (zo _ _) _ _ rfl (by simp) rfl (by simp[Value.oneCell']) (by omega) (by omega) (by omega) ?_;intro v' w3 o y x;obtain⟨Z,W,rfl⟩:=zp o;have A:=a.out.bx.save y (qv j a.out.bx (by decide));obtain⟨Y,ac,P⟩:=A.boxed))
  go_ret;obtain⟨I,C⟩:=a.out.addP (p:=(R,U,cs,t)) ⟨lw.new v (E.below f) (J.low i.size) (P6 l.out) K.out,s,l.out⟩ o y x;exact⟨rfl,⟨_,_,⟨by simp,by simp,by simp,by simp,by simp⟩,I⟩,(m.mono v).trans C⟩
theorem Pm(B:Nat)(w:World)(wb:Nat)(M:OM)(V:OV)(a b c:Int)(s:ByteArray)(h:QZ B w wb M V)(aa:M.row.length<=1048576):
  Calls prog 94 #[(π wb),.agg #[ι 9,ι a,ι b,ι c,.string s]] w fun e w'=>uI B w wb M e w':=by
 obtain⟨R,W,D,y,t⟩:=info_parts Q0;have ac:=h.size;have hB:=h.low;obtain⟨Z,ae,A,ag,ah,Y⟩:=V;have j:QF B w A M.row:=h.reg;obtain⟨F,k,rfl⟩:=j.qx;have x:w.ownsRow B 9 1 (.slice F M.row.length k) M.row.length (M.row.map Value.string):=j;have S:=Q7 h;have I:=h.bx;obtain⟨hc,hf,ab⟩:=I.boxed;clear h;cases X:(bits BinOp.and IntKind.i64 a 1 == 1) with
 |false=>
  go_enter func94,ntmps94;go_wp2;go_region_law (first|(refine dE w _ [.string s] 9 rfl (.tmp 177) (.tmp 180) 30 rfl B 9 R _ 1 16 underlying30 W D y t rfl (by decide) (.slice F M.row.length k) M.row.length (M.row.map Value.string) (by simp[Act.eval]) x (by exact(by repeat'(first|with_reducible(first|apply zR|assumption|apply zN|apply zA|apply zD|apply zS)|go_size))) (w.heap.size+1) 1 (by simp[Act.eval]) (by exact Q8.drew (Q8.newAt _ _ _ _ (by simp))) rfl (by simp[Value.oneCell']) (by omega) (by omega) (by omega) ?_;intro U L d g f N H;obtain⟨l,i,rfl⟩:=zp d;have o:=I.save g (qv x I (by decide));obtain⟨P,J,E⟩:=o.boxed))
  all_goals
   have q:QF B L (.slice l (M.row.length+1) i) (M.row++[s]):=by
    unfold QF;rw[yq,uP];exact d
   obtain⟨p,n⟩:=S.out.turn q g (f.imp_right zb);have m:=Q7 p;have r:=Q7 n;go_wp2;go_ret;exact⟨rfl,⟨_,_,gj.term (by simp),m.out⟩,r⟩
 |true=>
  obtain⟨z,v⟩:=S.out.turn (row':=[]) (v':=ν) (yD _ _ _ _) (ze.refl _ _) (zb (zf rfl));have C:=Q7 z;have Q:=Q7 v;have G:(w.setCell ⟨wb,9,none⟩ (ν)).heap.size=w.heap.size:=by simp[World.setCell]
  clear z v;go_enter func94,ntmps94;go_wp2;generalize w.setCell ⟨wb,9,none⟩ (ν)=K at *;have u:=C.out.bx;obtain⟨ad,af,T⟩:=u.boxed;have O:K.ownsRow B 9 1 (ν) 0 []:=yD _ _ _ _;go_region_law (first|(refine dE K _ [.string s] 9 rfl (.tmp 177) (.tmp 180) 30 rfl B 9 R _ 1 16 underlying30 W D y t rfl (by decide) (ν) 0 [] (by simp[Act.eval]) O (by exact(by repeat'(first|with_reducible(first|apply zR|assumption|apply zN|apply zA|apply zD|apply zS)|go_size))) (K.heap.size+1) 1 (by simp[Act.eval,G]) (by exact Q8.drew (Q8.newAt _ _ _ _ (by simp))) rfl (by simp[Value.oneCell']) (by omega) (by omega) (by omega) ?_;intro U L d g f N H;obtain⟨l,i,rfl⟩:=zp d;have o:=u.save g (by simp[Value.ownBlock]);obtain⟨P,J,E⟩:=o.boxed))
  all_goals
   have q:QF B L (.slice l (0+1) i) [s]:=d;obtain⟨p,n⟩:=C.out.turn q g (f.imp_right zb);have m:=Q7 p;have r:=Q7 n;go_wp2;go_ret;exact⟨rfl,⟨_,_,gj.term (by simp),m.out⟩,Q.out.trans r.out⟩
theorem MS(B:Nat)(w:World)(wb:Nat)(M:OM)(V:OV)(a b c:Int)(s:ByteArray)(h:QZ B w wb M V)(o:RG a/\RG b/\RG c):
  Calls prog 94 #[(π wb),.agg #[ι 4,ι a,ι b,ι c,.string s]] w fun e g=>uI B w wb M e g:=by
 have k:=Q7 h;obtain⟨l,j,d,m,p,t⟩:=V;have f:=h.bx;obtain⟨u,v,r⟩:=f.boxed;clear h;go_enter func94,ntmps94;go_wp2;go_ret;obtain⟨i,q⟩:=k.out.regs (w':=((w.setCell ⟨wb,4,none⟩ (ι a)).setCell ⟨wb,5,none⟩ (ι b)).setCell ⟨wb,6,none⟩ (ι c)) (a:=a) (n:=b) (ex:=c) (nb:=M.none) o (((ze.set w wb 4 _).trans (ze.set _ wb 5 _)).trans (ze.set _ wb 6 _)) (by simpa [kE] using((f.set 4 (ι a)).set 5 (ι b)).set 6 (ι c));exact⟨rfl,⟨_,_,gj.refl,i.below ((zo _ _).alloc (zg _) _)⟩,q.alloc i.size _⟩
theorem PE(B:Nat)(w:World)(wb:Nat)(M:OM)(V:OV)(a b c:Int)(s:ByteArray)(h:QZ B w wb M V):
  Calls prog 94 #[(π wb),.agg #[ι 6,ι a,ι b,ι c,.string s]] w fun e v=>uI B w wb M e v:=by
 have p:=Q7 h;obtain⟨j,k,f,l,m,i⟩:=V;have n:=h.bx;obtain⟨A,z,x⟩:=n.boxed;clear h;generalize q:(bits BinOp.and IntKind.i64 a 1 == 1)=d;go_enter func94,ntmps94;go_wp2;go_ret;have r:ze (wb::i.ownBlock.toList) w ((((w.setCell ⟨wb,7,none⟩ (.slice (some ⟨w.heap.size+1,0,none⟩) 0 0)).setCell ⟨wb,8,none⟩ (.bool d)).alloc (.cells #[ι 6,ι a,ι b,ι c,.string s] 67)).alloc (.cells #[] 24)):=(((ze.set w wb 7 _).trans (ze.set _ wb 8 _)).more (by simp)).trans (ze.of (((zo _ _).alloc (zg _) _).alloc (by simp[World.alloc]) _));have g:=A7 ((((w.setCell ⟨wb,7,none⟩ (.slice (some ⟨w.heap.size+1,0,none⟩) 0 0)).setCell ⟨wb,8,none⟩ (.bool d)).alloc (.cells #[ι 6,ι a,ι b,ι c,.string s] 67))) [] 24 (by decide);have t:((((w.setCell ⟨wb,7,none⟩ (.slice (some ⟨w.heap.size+1,0,none⟩) 0 0)).setCell ⟨wb,8,none⟩ (.bool d)).alloc (.cells #[ι 6,ι a,ι b,ι c,.string s] 67))).heap.size=w.heap.size+1:=by simp[World.setCell,World.alloc]
 rw[t] at g;obtain⟨y,u⟩:=p.out.reord (ord':=[]) (nb:=d) r (((show Q8 _ wb (kE {M with ord:=[],none:=d} ⟨j,k,f,l,m,.slice (some ⟨w.heap.size+1,0,none⟩) 0 0⟩) 35 from by simpa [kE] using(n.set 7 (.slice (some ⟨w.heap.size+1,0,none⟩) 0 0)).set 8 (.bool d)).up _).up _) (yt g (by have:=p.out.size;omega)) (zb (zb ⟨_,rfl,Nat.le_succ _⟩)) (fun o g=>by cases g);exact⟨rfl,⟨_,_,⟨by simp,by simp,by simp,by simp,by simp⟩,y⟩,u⟩
end
section
open Go.Proofs.Tryz
theorem sD{w:World}{b a:Nat}{c f:Array Value}{T d:TypeId}(h:Q8 w b c T)(g:Q8 w a f d)(i:T≠d):b≠a:=fun e=>by
 subst e;exact i (h.type g)
theorem Mj(B:Nat)(w:World)(wb:Nat)(M:OM)(V:OV)(a b c:Int)(s:ByteArray)(h:QZ B w wb M V)(hn:M.ins.length<=1048577)(ha:RG a)(hb:RG b):
  Calls prog 94 #[(π wb),.agg #[ι 3,ι a,ι b,ι c,.string s]] w fun e w'=>uI B w wb M e w':=by
 have hB:=h.size;have L:Hid (∀m,μ w m->uI B w wb M (ε (.bool true)) m):=fun m=>uI.kept h;have HT:=Q7 h;obtain⟨aH,a8,aw,am,au,a9⟩:=V;have U:=h.bx;have J:Sh B 24 w am (xt M.ins):=by have:=h.oin;simpa [Sh,xt] using this
 have ac:Sh B 24 w au (uC M.ins):=by have:=h.oiw;simpa [Sh,uC] using this
 have C:(xt M.ins).length=M.ins.length:=by simp[xt]
 have A:(uC M.ins).length=M.ins.length:=by simp[uC]
 obtain⟨ap,R,ab⟩:=zp J;obtain⟨an,Q,S⟩:=zp ac;rw[C] at ab;rw[A] at S;subst ab;subst S;obtain⟨hc,hf,aJ⟩:=U.boxed;by_cases h0:M.ins.length=0
 ·clear h;generalize M.ins.length=n at *;subst h0;go_enter func94,ntmps94;go_wp2;go_ret;exact L.out _ (by repeat'(first|with_reducible(first|apply zR|assumption|apply zN|apply zA|apply zD|apply zS)|go_size))
 ·clear h;go_enter func94,ntmps94;go_wp2;go_quiet ((go_at_call 95;exact Calls.quiet_of_same (mP _ a M.ins.length (by omega) (by omega) ha)))
  obtain⟨k,E⟩:∃k,k=ku a M.ins.length:=⟨_,rfl⟩;have y:k<M.ins.length:=by rw[E];exact mJ a (by omega)
  rw[←E];clear E hc hf;have g:μ w ((w.alloc (.cells #[ι 3,ι a,ι b,ι c,.string s] 67)).drewN nq):=zJ zT _;have Z:Q8 ((w.alloc (.cells #[ι 3,ι a,ι b,ι c,.string s] 67)).drewN nq) w.heap.size #[ι 3,ι a,ι b,ι c,.string s] 67:=(Q8.new w _ _).below (zJ (zo _ _) _);generalize (w.alloc (.cells #[ι 3,ι a,ι b,ι c,.string s] 67)).drewN nq=m at *;have u:=U.below g;obtain⟨hc,hf,a0⟩:=u.boxed;obtain⟨O,aa,aG⟩:=Z.boxed;have I:=Q7 (HT.out.below g);have N:Sh B 24 m (.slice ap M.ins.length R) (xt M.ins):=zB J g;have t:Sh B 24 m (.slice an M.ins.length Q) (uC M.ins):=zB ac g;obtain⟨g1,rfl,ak,G⟩:=N.cell k (by rw[C];exact y);obtain⟨g2,rfl,ar,F⟩:=t.cell k (by rw[A];exact y);have e1:(xt M.ins)[k]'(by rw[C];exact y)=.slice (some ⟨M.ins[k].1,0,none⟩) M.ins[k].2.2.length M.ins[k].2.2.length:=by simp[xt,sl]
  have e2:(uC M.ins)[k]'(by rw[A];exact y)=.slice (some ⟨M.ins[k].2.1,0,none⟩) M.ins[k].2.2.length M.ins[k].2.2.length:=by simp[uC,sl]
  rw[e1] at G;rw[e2] at F;have hI:=I.out.ints _ (zs y);have ad:Hid (∀W,μ m W->∀i,∃M' V',QZ B ((W.setCell ⟨M.ins[k].1,i,none⟩ (ι c)).setCell ⟨M.ins[k].2.1,i,none⟩ (ι c)) wb M' V'/\gj M M'):=fun W hW i=>⟨_,_,((I.out.below hW).write y i c).1,⟨by simp,by simp,by simp,by simp,by simp⟩⟩;have ag:M.ins[k].1≠M.ins[k].2.1:=(qa.1 HT.out.disI).2.2 _ (z7.2 ⟨_,zs y,rfl⟩) _ (z7.2 ⟨_,zs y,rfl⟩);have aF:=hI.len;obtain⟨⟨Y,P⟩,ae,X,_⟩:=hI;clear e1 e2;generalize M.ins[k].1=r at *;generalize M.ins[k].2.1=H at *;generalize M.ins[k].2.2=l at *;have a5:=ae.lt;have ay:=X.lt;by_cases hz:l.length=0
  ·have ai:¬(0:Int)<(l.length:Int):=by omega
   go_wp2;go_ret;exact L.out _ g
  ·have v:Hid (0<l.length):=by unfold Hid;omega
   have aB:(0:Int)<(l.length:Int):=by omega
   have al:=Q7 fun W=>mP W b l.length v.out (by omega) hb;go_wp2;go_quiet ((go_at_call 95;exact Calls.quiet_of_same (al.out _)))
   obtain⟨i,D⟩:∃i,i=ku b l.length:=⟨_,rfl⟩;have T:i<l.length:=by rw[D];exact mJ b v.out
   rw[←D];clear D hc hf O aa;have d:μ m (m.drewN nq):=zJ (zo _ _) _;generalize m.drewN nq=p at *;have ai:=d.size;have o:=u.below d;obtain⟨hc,hf,ax⟩:=o.boxed;have z:=Z.below d;obtain⟨O,aa,a2⟩:=z.boxed;have aE:=zl d ak G;have aI:=zl d ar F;have az:g1<p.heap.size:=by omega
   have a4:g2<p.heap.size:=by omega
   obtain⟨M',V',af,hG⟩:=ad.out p d i;have ao:=Q7 af;have HG:=Q7 hG;have f:=ae.below d;have j:=X.below d;clear ad af hG G F;have aC:p.cell? ⟨r,i,none⟩=some (ι l[i]):=by rw[f.rules.1];simp[xY,T]
   have aq:p.cell? ⟨H,i,none⟩=some (ι l[i]):=by rw[j.rules.1];simp[xY,T]
   have a6:=f.lt;have K:=j.lt;have aD:=f.rules.2;have a7:=j.rules.2;have a1:r≠wb:=sD f o (by decide);have a3:H≠wb:=sD j o (by decide);have av:r≠w.heap.size:=sD f z (by decide);have aA:r≠g2:=fun e=>by
    obtain⟨q,hq⟩:=uV (zB t d) (b:=g2) rfl;exact sD f hq (by decide) e
   generalize l[i]=x at *;go_wp2;have aj:ze [r] p (p.setCell ⟨r,i,none⟩ (ι c)):=ze.set p r i _;have aK:(p.setCell ⟨r,i,none⟩ (ι c)).cell? ⟨H,i,none⟩=some (ι x):=by
    rw[World.cell?_of_block (w:=p) (aj.block H K (by simp;exact Ne.symm ag))];exact aq
   have ah:Below B w (((p.setCell ⟨r,i,none⟩ (ι c)).setCell ⟨H,i,none⟩ (ι c))):=(((g.mono hB).trans (d.mono (by have:=g.size;omega))).setCell Y _).setCell P _;go_region
   go_wp2;go_region
   go_wp2;go_ret;exact⟨rfl,⟨M',V',HG.out,ao.out.below (zo _ _).drew.drew⟩,ah.drew.drew⟩
def tO(B:Nat)(w:World)(wb:Nat)(M:OM)(e:Ending)(w':World):Prop:=e=ε (.tuple #[])/\Hid (∃a b,gj M a/\QZ B w' wb a b)/\Hid (Below B w w')
theorem QZ.push{B:Nat}{w a w':World}{wb:Nat}{M:OM}{V:OV}(h:QZ B w wb M V){o:pF}{v':Value}(m:a.ownsRow B 24 1 v' (M.ord.length+1) (M.ord.map jT++[jT o]))(i:ze V.orv.ownBlock.toList w a)(e:v'.ownBlock=V.orv.ownBlock∨∃g,v'.ownBlock=some g/\w.heap.size<=g)(k:mN M.ins o)(d:Below a.heap.size (a.setCell ⟨wb,7,none⟩ v') w'):tO B w wb M (ε (.tuple #[])) w':=by
 have c:=h.box.save i ((NT.own h.oor (by decide)).not h.box);have j:(a.setCell ⟨wb,7,none⟩ v').heap.size=a.heap.size:=by simp[World.setCell]
 obtain⟨f,l⟩:=h.reord (ord':=M.ord++[o]) (nb:=M.none) (w':=a.setCell ⟨wb,7,none⟩ v') (pQ i 7 v') (by simpa [kE] using c.set 7 v') (by
  rw[yq,uP];exact yJ m (ze.set a wb 7 v') (NT.cons c (by decide) NT.nil)) (e.imp_right zb) (fun q b=>by
  rcases zI.1 b with b|b
  ·exact h.win q b
  ·rw[xG.1 b];exact k)
 rw[←j] at d;exact⟨rfl,⟨_,_,⟨by simp,by simp,by simp,by simp,by simp⟩,f.below d⟩,l.trans (d.mono f.size)⟩
theorem Fg(B:Nat)(w:World)(wb:Nat)(M:OM)(V:OV)(a b c:Int)(s:ByteArray)(h:QZ B w wb M V)(hn:M.ord.length<=1048577)(L:M.ins.length=0∨(bits BinOp.and IntKind.i64 b 1 == 1)=true):
  Calls prog 135 #[(π wb),.agg #[ι 5,ι a,ι b,ι c,.string s]] w fun e R=>tO B w wb M e R:=by
 obtain⟨W,hi,E,z,u⟩:=info_parts Qz;have hB:=h.size;obtain⟨ab,ah,N,I,ai,A⟩:=V;have K:=h.bx;obtain⟨T,P⟩:=h.regs (w':=w.setCell ⟨wb,8,none⟩ (.bool false)) (a:=M.a) (n:=M.n) (ex:=M.ex) (nb:=false) h.num (ze.set w wb 8 _) (by simpa [kE] using K.set 8 (.bool false));have HW:=Q7 T;have U:=Q7 P;have y:w.ownsRow B 24 1 I M.ins.length (xt M.ins):=h.oin;obtain⟨ac,Q,rfl⟩:=zp y;have G:w.ownsRow B 24 1 A M.ord.length (M.ord.map jT):=h.oor;obtain⟨t,g,rfl⟩:=zp G;obtain⟨hc,hf,H⟩:=K.boxed;clear h T P;have aa:wb<w.heap.size:=H;by_cases D:M.ins.length=0
 all_goals
  have f:((M.ins.length:Int) == 0)=decide (M.ins.length=0):=by cases x:decide (M.ins.length=0)<;>simp at x ⊢<;>omega
  first|rw[decide_eq_true D] at f|(rw[decide_eq_false D] at f;have S:=L.resolve_left D)
  clear L;go_enter func135,ntmps135;go_upto_region 3 with fail
  have k:Hid (Below w.heap.size (w.setCell ⟨wb,8,none⟩ (.bool false)) ((w.setCell ⟨wb,8,none⟩ (.bool false)).alloc (.cells #[ι 5,ι a,ι b,ι c,.string s] 67))):=(zo _ _).alloc (by simp[World.setCell]) _;have i:(w.setCell ⟨wb,8,none⟩ (.bool false)).heap.size=w.heap.size:=by simp[World.setCell]
  generalize (w.setCell ⟨wb,8,none⟩ (.bool false)).alloc (.cells #[ι 5,ι a,ι b,ι c,.string s] 67)=O at *;generalize w.setCell ⟨wb,8,none⟩ (.bool false)=wY at *;rw[←i] at k;have d:=Q7 (HW.out.below k.out);have X:=d.out.size;have j:=d.out.bx;have q:O.ownsRow B 24 1 (.slice t M.ord.length g) M.ord.length (M.ord.map jT):=d.out.oor;obtain⟨ag,af,ae⟩:=j.boxed;have v:=Q7 (U.out.trans (k.out.mono (by rw[i];exact hB)));go_wp2_with (at_builtin;refine kH O _ [ν] _ rfl (.tmp 28) (.tmp 29) 26 rfl B 24 W _ 1 24 underlying26 hi E z u rfl (by decide) (.slice t M.ord.length g) M.ord.length (M.ord.map jT) rfl q (zo _ _) _ _ rfl (by simp) rfl (by simp[Value.oneCell']) (by omega) (by omega) (by omega) ?_;intro v3 w3 l r p;obtain⟨Z,J,rfl⟩:=zp l;have F:=j.save r (qv q j (by decide));obtain⟨Y,ad,aj⟩:=F.boxed)
  (try simp only[Exit.inBlock,Exit.then])
  refine zK (results_none rfl _ _ _) rfl ?_;have x:=d.out.push (o:=none) l r p trivial (zo _ _);obtain⟨_,⟨M',V',m,hW⟩,C⟩:=x;exact⟨rfl,⟨M',V',⟨m.ps,m.rs,m.row,m.ins,m.ord⟩,hW⟩,v.out.trans C.out⟩
theorem Lk(B:Nat)(w:World)(wb:Nat)(M:OM)(V:OV)(a b c:Int)(s:ByteArray)(h:QZ B w wb M V)(ha:RG a)(hn:M.ord.length<=1048577)(aG:M.ins.length<=1048577)(hz:M.ins.length≠0)(a7:(bits BinOp.and IntKind.i64 b 1 == 1)=false):
  Calls prog 135 #[(π wb),.agg #[ι 5,ι a,ι b,ι c,.string s]] w fun e v=>tO B w wb M e v:=by
 obtain⟨i0,hi,ah,aq,ay⟩:=info_parts Qz;have hB:=h.size;have d:=h.num;obtain⟨aK,aC,a6,ao,aR,an⟩:=V;have hb:=h.bx;obtain⟨h1,h2⟩:=h.regs (w':=w.setCell ⟨wb,8,none⟩ (.bool false)) (a:=M.a) (n:=M.n) (ex:=M.ex) (nb:=false) h.num (ze.set w wb 8 _) (by simpa [kE] using hb.set 8 (.bool false));have HW:=Q7 h1;have HB:=Q7 h2;have T:w.ownsRow B 24 1 ao M.ins.length (xt M.ins):=h.oin;obtain⟨au,U,rfl⟩:=zp T;have Q:w.ownsRow B 24 1 an M.ord.length (M.ord.map jT):=h.oor;obtain⟨Z,E,rfl⟩:=zp Q;obtain⟨hc,hf,a3⟩:=hb.boxed;clear h h1 h2;have a8:((M.ins.length:Int) == 0)=false:=by rw[beq_eq_false_iff_ne];omega
 go_enter func135,ntmps135;go_upto_region 5 with fail
 have C:Hid (Below w.heap.size (w.setCell ⟨wb,8,none⟩ (.bool false)) ((w.setCell ⟨wb,8,none⟩ (.bool false)).alloc (.cells #[ι 5,ι a,ι b,ι c,.string s] 67))):=(zo _ _).alloc (by simp[World.setCell]) _;have t:(w.setCell ⟨wb,8,none⟩ (.bool false)).heap.size=w.heap.size:=by simp[World.setCell]
 have ab:Q8 ((w.setCell ⟨wb,8,none⟩ (.bool false)).alloc (.cells #[ι 5,ι a,ι b,ι c,.string s] 67)) w.heap.size #[ι 5,ι a,ι b,ι c,.string s] 67:=Q8.newAt _ _ _ _ t.symm;generalize (w.setCell ⟨wb,8,none⟩ (.bool false)).alloc (.cells #[ι 5,ι a,ι b,ι c,.string s] 67)=wX at *;generalize w.setCell ⟨wb,8,none⟩ (.bool false)=wY at *;rw[←t] at C;have f:=Q7 (HW.out.below C.out);have ae:=f.out.size;have z:=f.out.bx;dsimp only at z;have N:=Q7 (HB.out.trans (C.out.mono (by rw[t];exact hB)));clear hc hf a3 hb T Q HW HB C;obtain⟨aj,a0,av⟩:=z.boxed;obtain⟨ak,ax,ar⟩:=ab.boxed;obtain⟨k,J⟩:∃k,k=ku a M.ins.length:=⟨_,rfl⟩;have hk:k<M.ins.length:=by rw[J];exact mJ a (by omega)
 have Y:Hid (∀W:World,Calls prog 95 #[ι a,ι M.ins.length] W fun e v=>e=ε (ι (k:Int))/\v=W):=fun W=>by rw[J];exact mP W a M.ins.length (by omega) (by omega) ha
 clear J;have P:Sh B 24 wX (.slice au M.ins.length U) (xt M.ins):=by have:=f.out.oin;simpa [Sh,xt] using this
 obtain⟨g1,rfl,aF,ad⟩:=P.cell k (by simp[xt,hk]);have hI:=f.out.ints _ (zs hk);have HX:Hid (∃x∈M.ins,x=M.ins[k]):=⟨_,zs hk,rfl⟩;have e1:(xt M.ins)[k]'(by simp[xt,hk])=.slice (some ⟨M.ins[k].1,0,none⟩) M.ins[k].2.2.length M.ins[k].2.2.length:=by simp[xt,sl]
 rw[e1] at ad;have aJ:=hI.len;have O:=hI.one.lt;clear e1 hI;generalize M.ins[k]=x at *;have g:=Q7 fun W=>mP W M.a (x.2.2.length+1) (by omega) (by omega) d.1;obtain⟨at',u⟩:∃q,q=ku M.a (x.2.2.length+1):=⟨_,rfl⟩;have a2:at'<x.2.2.length+1:=by rw[u];exact mJ _ (by omega)
 rw[←u] at g;have m:=Q7 fun W=>mP W M.n (x.2.2.length-at'+1) (by omega) (by omega) d.2.1;obtain⟨n,K⟩:∃q,q=ku M.n (x.2.2.length-at'+1):=⟨_,rfl⟩;have aw:n<x.2.2.length-at'+1:=by rw[K];exact mJ _ (by omega)
 rw[←K] at m;have i:=Q7 fun W=>mP W M.ex (x.2.2.length-at'-n+1) (by omega) (by omega) d.2.2;obtain⟨r,F⟩:∃q,q=ku M.ex (x.2.2.length-at'-n+1):=⟨_,rfl⟩;have am:r<x.2.2.length-at'-n+1:=by rw[F];exact mJ _ (by omega)
 rw[←F] at i;clear u K F d;have a4:Hid (∀W,Calls prog 95 #[ι M.a,ι ((x.2.2.length:Int)+1)] W fun e v=>e=ε (ι (at':Int))/\v=W):=fun W=>by
  have:=g.out W;rw[Int.natCast_add] at this;exact this
 have al:Hid (∀W,Calls prog 95 #[ι M.n,ι ((x.2.2.length:Int)-(at':Int)+1)] W fun e v=>e=ε (ι (n:Int))/\v=W):=fun W=>by
  have:=m.out W;rw[show((x.2.2.length-at'+1:Nat):Int)=(x.2.2.length:Int)-(at':Int)+1 from by omega] at this;exact this
 have az:Hid (∀W,Calls prog 95 #[ι M.ex,ι ((x.2.2.length:Int)-(at':Int)-(n:Int)+1)] W fun e v=>e=ε (ι (r:Int))/\v=W):=fun W=>by
  have:=i.out W;rw[show((x.2.2.length-at'-n+1:Nat):Int)=(x.2.2.length:Int)-(at':Int)-(n:Int)+1 from by omega] at this;exact this
 clear g m i;go_quiet ((go_at_call 95;exact Calls.quiet_of_same (Y.out _)))
 clear Y;have j:Hid (μ wX (wX.drewN nq)):=zJ (zo _ _) _;generalize wX.drewN nq=wZ at *;have H:=Q7 (f.out.below j.out);have G:=z.below j.out;have aS:x.1<wZ.heap.size:=xP O j.out.size;have ai:=Q7 (N.out.trans (j.out.mono ae));have I:Hid (mN M.ins (some (x.1,at',n,r))):=by
  obtain⟨y,hy,rfl⟩:=HX.out;exact⟨y,hy,rfl,by omega⟩
 have aa:wZ.ownsRow B 24 1 (.slice Z M.ord.length E) M.ord.length (M.ord.map jT):=H.out.oor;have aU:=H.out.size;have l1:at'<=x.2.2.length:=by omega
 have l2:at'+n<=x.2.2.length:=by omega
 have l3:at'+n+r<=x.2.2.length:=by omega
 clear aj a0 av ak ax ar ab z P ad O HX f N j a2 aw am;obtain⟨aL,aH,aA⟩:=G.boxed;generalize x.1=L at *;generalize x.2.2.length=ln at *;generalize M.a=ma at *;generalize M.n=mn at *;generalize M.ex=me at *;go_upto_region 7 with (go_at_call 95;refine(a4.out _).mono ?_;rintro e w5 ⟨rfl,p⟩;obtain rfl:=p.symm)
 go_upto_region 8 with (go_at_call 95;refine(al.out _).mono ?_;rintro e w5 ⟨rfl,p⟩;obtain rfl:=p.symm)
 go_upto_region 9 with (go_at_call 95;refine(az.out _).mono ?_;rintro e w5 ⟨rfl,p⟩;obtain rfl:=p.symm)
 obtain⟨D,af⟩:∃D,D=at'+n:=⟨_,rfl⟩;obtain⟨A,ap⟩:∃A,A=at'+n+r:=⟨_,rfl⟩;obtain⟨l,aP,ag⟩:∃l,(if A=at' then some (⟨L,0,none⟩:Addr) else some ⟨L,at',none⟩)=some ⟨L,l,none⟩/\Hid (mN M.ins (some (L,l,n,r))):=by
  by_cases q:A=at'
  ·obtain⟨y,hy,e,aT⟩:=I.out;exact⟨0,by simp[q],⟨y,hy,e,by omega⟩⟩
  ·exact⟨at',by simp[q],I⟩
 have aO:IntKind.i64.wrap ((at':Int)+(n:Int))=(D:Int):=by rw[IntKind.wrap_i64];omega
 have aD:IntKind.i64.wrap ((D:Int)+(r:Int))=(A:Int):=by rw[IntKind.wrap_i64];omega
 have c1:(A:Int)<=(ln:Int):=by omega
 have c2:(D:Int)<=max (A:Int) 0:=by omega
 have c3:at'<=D:=by omega
 have c4:D<=A:=by omega
 have d1:D-at'=n:=by omega
 have d2:A-at'=n+r:=by omega
 clear af ap l1 l2 l3 I;go_region_law (first|(refine dE wZ _ [.slice (some ⟨L,l,none⟩) n (n+r)] 24 rfl (.tmp 82) (.tmp 94) 26 rfl B 24 i0 _ 1 24 underlying26 hi ah aq ay rfl (by decide) (.slice Z M.ord.length E) M.ord.length (M.ord.map jT) (by simp[Act.eval]) aa (by exact(by repeat'(first|with_reducible(first|apply zR|assumption|apply zN|apply zA|apply zD|apply zS)|go_size))) wZ.heap.size 1 (by simp[Act.eval]) (by exact Q8.drew (Q8.new _ _ _)) rfl (by simp[Value.oneCell']) (by omega) (by omega) (by omega) ?_;intro v3 w3 ac S R aN aB;obtain⟨aQ,a9,rfl⟩:=zp ac;have a1:=G.save S (qv aa G (by decide));obtain⟨aE,aM,aI⟩:=a1.boxed))
 all_goals
  go_wp2
  (try simp only[Exit.inBlock,Exit.then])
  refine zK (results_none rfl _ _ _) rfl ?_;obtain⟨_,⟨M',V',X,hW⟩,a5⟩:=H.out.push (o:=some (L,l,n,r)) ac S R ag.out (zo _ _);exact⟨rfl,⟨M',V',⟨X.ps,X.rs,X.row,X.ins,X.ord⟩,hW⟩,ai.out.trans a5.out⟩
theorem JV(B:Nat)(w:World)(wb:Nat)(M:OM)(V:OV)(a b c:Int)(s:ByteArray)(h:QZ B w wb M V)(p:RG a)(k:M.ord.length<=1048577)(f:M.ins.length<=1048577):
  Calls prog 94 #[(π wb),.agg #[ι 5,ι a,ι b,ι c,.string s]] w fun e j=>uI B w wb M e j:=by
 have o:Hid (∀W,μ w W->Calls prog 135 #[(π wb),.agg #[ι 5,ι a,ι b,ι c,.string s]] W fun e j=>tO B W wb M e j):=fun W g=>by
  by_cases m:M.ins.length=0
  ·exact Fg B W wb M V a b c s (h.below g) k (zf m)
  ·cases d:(bits BinOp.and IntKind.i64 b 1 == 1) with
   |true=>exact Fg B W wb M V a b c s (h.below g) k (zb d)
   |false=>exact Lk B W wb M V a b c s (h.below g) p k f m d
 have n:=h.size;clear h;go_enter func94,ntmps94;go_wp2_with (go_at_call 135;refine(o.out _ (by exact(by repeat'(first|with_reducible(first|apply zR|assumption|apply zN|apply zA|apply zD|apply zS)|go_size)))).mono ?_;rintro e q ⟨rfl,l,i⟩)
 go_ret;exact⟨rfl,l,(Below.mono (w:=w) (by repeat'(first|with_reducible(first|apply zR|assumption|apply zN|apply zA|apply zD|apply zS)|go_size)) n).trans i.out⟩
def uM(s:ByteArray)(k:Nat):List Int:=(List.range s.size).map fun i=>if i<k then QG s i else 0
theorem Np(s:ByteArray)(k:Nat):(uM s k).length=s.size:=by simp[uM]
theorem FT(s:ByteArray)(k:Nat):(uM s k).set k (QG s k)=uM s (k+1):=by
 refine kX (by simp[uM]) fun i a b=>?_;simp only[uM,lO,uJ,mI];by_cases e:k=i
 ·subst e;simp
 ·rw[za e];by_cases q:i<k
  ·rw[zc q,zc (by omega)]
  ·rw[za q,za (by omega)]
theorem L9(s:ByteArray):madeCells #[ι 0] s.size=xY (uM s 0):=by
 refine Array.ext (by simp[size_madeCells,xY,uM]) fun i a b=>?_;simp[madeCells,xY,uM,Nat.mod_one]
theorem BO{s:ByteArray}{k i:Nat}(a:i<s.size):(xY (uM s k))[i]?=some (ι (if i<k then QG s i else 0)):=by simp[xY,uM,a]
theorem O3(B:Nat)(w:World)(wb:Nat)(M:OM)(V:OV)(a b c:Int)(s:ByteArray)(h:QZ B w wb M V)(hs:s.size<=1048576)(aL:M.ins.length<=1048577):
  Calls prog 94 #[(π wb),.agg #[ι 2,ι a,ι b,ι c,.string s]] w fun e w'=>uI B w wb M e w':=by
 obtain⟨i0,hi,ac,ah,al⟩:=info_parts Qz;have hB:=h.size;have HW:=Q7 h;have a5:=fun W:World=>run_make_row' (P:=prog) (w:=W) 24 3 (ι 0) 8 underlying24 Q2 rfl .i64 .i64 s.size (by omega) (by omega);rw[L9] at a5;obtain⟨aU,aF,a7,av,a6,aK⟩:=V;have K:w.ownsRow B 24 1 av M.ins.length (xt M.ins):=h.oin;obtain⟨t,m,rfl⟩:=zp K;have G:w.ownsRow B 24 1 a6 M.ins.length (uC M.ins):=h.oiw;obtain⟨n,f,rfl⟩:=zp G;clear h K G;go_enter func94,ntmps94;go_upto_region 6 with fail
 have a0:Q8 (((w.alloc (.cells #[ι 2,ι a,ι b,ι c,.string s] 67)).alloc (.cells (xY (uM s 0)) 3)).alloc (.cells (xY (uM s 0)) 3)) w.heap.size #[ι 2,ι a,ι b,ι c,.string s] 67:=((Q8.new w _ _).up _).up _;have au:Q8 (((w.alloc (.cells #[ι 2,ι a,ι b,ι c,.string s] 67)).alloc (.cells (xY (uM s 0)) 3)).alloc (.cells (xY (uM s 0)) 3)) (w.heap.size+1) (xY (uM s 0)) 3:=(Q8.newAt _ _ _ _ (by simp)).up _;have az:Q8 (((w.alloc (.cells #[ι 2,ι a,ι b,ι c,.string s] 67)).alloc (.cells (xY (uM s 0)) 3)).alloc (.cells (xY (uM s 0)) 3)) (w.heap.size+1+1) (xY (uM s 0)) 3:=Q8.newAt _ _ _ _ (by simp);have aw:Hid (μ w (((w.alloc (.cells #[ι 2,ι a,ι b,ι c,.string s] 67)).alloc (.cells (xY (uM s 0)) 3)).alloc (.cells (xY (uM s 0)) 3))):=(show μ w _ from(by repeat'(first|with_reducible(first|apply zR|assumption|apply zN|apply zA|apply zD|apply zS)|go_size)));generalize ((w.alloc (.cells #[ι 2,ι a,ι b,ι c,.string s] 67)).alloc (.cells (xY (uM s 0)) 3)).alloc (.cells (xY (uM s 0)) 3)=wX at *;have ay:Hid (w.heap.size<w.heap.size+1):=Nat.lt_succ_self _;generalize w.heap.size+1=r at *;have a3:Hid (r<r+1):=Nat.lt_succ_self _;generalize r+1=F at *;go_wp2;go_loopw [7] (fun v7 wr=>∃k:Nat,k<=s.size/\v7=ι k/\Q8 wr w.heap.size #[ι 2,ι a,ι b,ι c,.string s] 67/\Q8 wr r (xY (uM s k)) 3/\Q8 wr F (xY (uM s k)) 3/\Hid (μ w wr)) (fun i _=>s.size-(intOf i).toNat)
 case atStart=>exact⟨0,zv _,rfl,a0,au,az,aw⟩
 case round=>
  obtain⟨k,hk,rfl,ho,h1,h2,HB⟩:=hrel;obtain⟨aG,aZ,aT⟩:=ho.boxed;have aN:=h1.lt;have a9:=h2.lt;have aP:=ay.out;have aX:=a3.out;by_cases Y:k<s.size
  ·have ag:=qn Y;have aI:=h1.rules.2;have aA:=h2.rules.2;have bb:wr.cell? ⟨r,k,none⟩=some (ι (if k<k then QG s k else 0)):=by rw[h1.rules.1];exact BO Y
   have aY:wr.cell? ⟨F,k,none⟩=some (ι (if k<k then QG s k else 0)):=by rw[h2.rules.1];exact BO Y
   have ax:w.heap.size≠r:=by omega
   have ar:w.heap.size≠F:=by omega
   have aa:r≠F:=by omega
   have a4:=h1.set k (ι (QG s k));have a2:=h2.set_ne (Ne.symm aa) k (ι (QG s k));have u:=((ho.set_ne ax k (ι (QG s k))).set_ne ar k (ι (QG s k)));have C:=a4.set_ne aa k (ι (QG s k));have z:=a2.set k (ι (QG s k));rw[ek,FT] at C z;have ab:Hid (μ w ((wr.setCell ⟨r,k,none⟩ (ι (QG s k))).setCell ⟨F,k,none⟩ (ι (QG s k)))):=(HB.out.setCell (by show w.heap.size<=r;omega) _).setCell (by show w.heap.size<=F;omega) _;rw[ag] at C z u ab;have a8:wrap64 (s[k].toNat:Int)=(s[k].toNat:Int):=by
    have:=fg s k;rw[ag] at this;unfold wrap64;omega
   go_wp2;go_roundw
   ·exact⟨k+1,by omega,by go_num,u,C,z,ab⟩
   ·simp[intOf];omega
  ·have a1:k=s.size:=by omega
   subst a1;have E:=Q7 (HW.out.below HB.out);have y:=E.out.bx;obtain⟨hc,hf,ba⟩:=y.boxed;have T:wr.ownsRow B 24 1 (.slice t M.ins.length m) M.ins.length (xt M.ins):=E.out.oin;have D:wr.ownsRow B 24 1 (.slice n M.ins.length f) M.ins.length (uC M.ins):=E.out.oiw;have aB:=E.out.size;have aC:=HB.out.size;have HD:=Q7 HW.out.dis3;have N:∀q,(Value.slice t M.ins.length m).ownBlock=some q->(Value.slice n M.ins.length f).ownBlock≠some q:=fun q O H=>(qa.1 HD.out).2.2 q (by rw[O];simp) q (by rw[H];simp) rfl;go_upto_region 13 with (at_builtin;refine kH wr _ [.slice (some ⟨r,0,none⟩) s.size s.size] _ rfl (.tmp 52) (.tmp 54) 26 rfl B 24 i0 _ 1 24 underlying26 hi ac ah al rfl (by decide) (.slice t M.ins.length m) M.ins.length (xt M.ins) rfl T (zo _ _) _ _ rfl (by simp) rfl (by simp[Value.oneCell']) (by omega) (by omega) (by omega) ?_;intro v3 U am S I;obtain⟨j,d,rfl⟩:=zp am;have u:=y.save S (qv T y (by decide));obtain⟨aH,aW,aR⟩:=u.boxed)
   have v:=u.set 2 (.slice j (M.ins.length+1) d);have aE:(U.setCell ⟨wb,2,none⟩ (.slice j (M.ins.length+1) d)).heap.size=U.heap.size:=by simp[World.setCell]
   have ai:ze (wb::(Value.slice t M.ins.length m).ownBlock.toList) wr (U.setCell ⟨wb,2,none⟩ (.slice j (M.ins.length+1) d)):=pQ S 2 _;have R:(U.setCell ⟨wb,2,none⟩ (.slice j (M.ins.length+1) d)).ownsRow B 24 1 (.slice j (M.ins.length+1) d) (M.ins.length+1) (xt M.ins++[.slice (some ⟨r,0,none⟩) s.size s.size]):=yJ am (ze.set U wb 2 _) (NT.cons u (by decide) NT.nil);have L:(U.setCell ⟨wb,2,none⟩ (.slice j (M.ins.length+1) d)).ownsRow B 24 1 (.slice n M.ins.length f) M.ins.length (uC M.ins):=yT D ai fun q p Z=>by
    rcases zx.1 Z with rfl|Z
    ·exact uB D y (by decide) p rfl
    ·exact N q (yr Z) p
   have aD:=S.size;generalize U.setCell ⟨wb,2,none⟩ (.slice j (M.ins.length+1) d)=w4 at *;simp only[List.setIfInBounds_toArray,ml,nW] at v;obtain⟨aQ,bc,aS⟩:=v.boxed;have aM:B<=w4.heap.size:=by omega
   go_wp2_with (at_builtin;refine kH w4 _ [.slice (some ⟨F,0,none⟩) s.size s.size] _ rfl (.tmp 63) (.tmp 65) 26 rfl B 24 i0 _ 1 24 underlying26 hi ac ah al rfl (by decide) (.slice n M.ins.length f) M.ins.length (uC M.ins) rfl L (zo _ _) _ _ rfl (by omega) rfl (by simp[Value.oneCell']) (by omega) (by omega) (by omega) ?_;intro v5 w5 ak aj J;obtain⟨A,o,rfl⟩:=zp ak;have X:=v.save aj (qv L v (by decide));obtain⟨aV,aO,aJ⟩:=X.boxed)
   go_ret;have ae:ze (wb::(Value.slice n M.ins.length f).ownBlock.toList) w4 (w5.setCell ⟨wb,3,none⟩ (.slice A (M.ins.length+1) o)):=pQ aj 3 _;have Q:ze (wb::((Value.slice t M.ins.length m).ownBlock.toList++(Value.slice n M.ins.length f).ownBlock.toList)) wr (w5.setCell ⟨wb,3,none⟩ (.slice A (M.ins.length+1) o)):=(ai.more (fun q p=>by simp only[zx,zI] at p ⊢;rcases p with p|p<;>simp[p])).trans (ae.more (fun q p=>by simp only[zx,zI] at p ⊢;rcases p with p|p<;>simp[p]));have hT:NT wr 3 (wb::((Value.slice t M.ins.length m).ownBlock.toList++(Value.slice n M.ins.length f).ownBlock.toList)):=NT.cons y (by decide) ((NT.own T (by decide)).app (NT.own D (by decide)));have an:∀q,(Value.slice j (M.ins.length+1) d).ownBlock=some q->q<w4.heap.size:=fun q e=>xI R e;have ad:∀q,(Value.slice n M.ins.length f).ownBlock=some q->q<wr.heap.size:=fun q e=>xI D e;have af:∀q,(Value.slice j (M.ins.length+1) d).ownBlock=some q->(Value.slice n M.ins.length f).ownBlock≠some q:=fun q O H=>by
    rcases I with e|⟨g,e,hg⟩
    ·exact N q (by rw[←e,O]) H
    ·rw[e] at O;have:=ad q H;simp at O;omega
   have ap:(w5.setCell ⟨wb,3,none⟩ (.slice A (M.ins.length+1) o)).ownsRow B 24 1 (.slice j (M.ins.length+1) d) (M.ins.length+1) (xt M.ins++[.slice (some ⟨r,0,none⟩) s.size s.size]):=yT R ae fun q p Z=>by
    rcases zx.1 Z with rfl|Z
    ·exact uB R v (by decide) p rfl
    ·exact af q p (yr Z)
   have x:=Np s s.size;obtain⟨aq,ao⟩:=HW.out.addI (ga:=r) (gb:=F) (l:=uM s s.size) (v1:=.slice j (M.ins.length+1) d) (v2:=.slice A (M.ins.length+1) o) ((ze.of HB.out).trans Q) (by simpa [kE] using X.set 3 (.slice A (M.ins.length+1) o)) (by rw[x];exact ap) (by rw[x];exact yJ ak (ze.set w5 wb 3 _) (NT.cons X (by decide) NT.nil)) (I.imp_right fun⟨g,e,hg⟩=>⟨g,e,by omega⟩) (J.imp_right fun⟨g,e,hg⟩=>⟨g,e,by omega⟩) (fun q O H=>by
    rcases J with e|⟨g,e,hg⟩
    ·exact af q O (by rw[←e,H])
    ·rw[e] at H;have:=an q O;simp at H;omega) (by omega) (by omega) (by omega) (h1.save Q (hT.not h1)) (h2.save Q (hT.not h2)) (by rw[x];exact hs)
   exact⟨rfl,⟨_,_,⟨by simp,by simp,by simp,by simp,by simp⟩,aq⟩,ao⟩
theorem N0(B:Nat)(w:World)(wb:Nat)(M:OM)(V:OV)(h:QZ B w wb M V)(hn:M.ins.length<=1048577):
  Calls prog 58 #[(π wb)] w fun e w'=>e=ε (.bool true)/\μ w w':=by
 obtain⟨X,ad,P,I,K,U⟩:=V;have t:=h.bx;have o:Sh B 24 w I (xt M.ins):=by have:=h.oin;simpa [Sh,xt] using this
 have n:Sh B 24 w K (uC M.ins):=by have:=h.oiw;simpa [Sh,uC] using this
 have s:(xt M.ins).length=M.ins.length:=by simp[xt]
 have m:(uC M.ins).length=M.ins.length:=by simp[uC]
 obtain⟨aa,S,u⟩:=zp o;obtain⟨ae,Q,p⟩:=zp n;rw[s] at u;rw[m] at p;subst u;subst p;have E:Hid (∀i (h:i<M.ins.length),(xt M.ins)[i]'(by simpa [xt] using h)=.slice (some ⟨M.ins[i].1,0,none⟩) M.ins[i].2.2.length M.ins[i].2.2.length):=fun i h=>by simp[xt,sl]
 have y:Hid (∀i (h:i<M.ins.length),(uC M.ins)[i]'(by simpa [uC] using h)=.slice (some ⟨M.ins[i].2.1,0,none⟩) M.ins[i].2.2.length M.ins[i].2.2.length):=fun i h=>by simp[uC,sl]
 have f:∀{W:World} {g:Nat} {l:List Int},Q8 W g (xY l) 3->uA W (.slice (some ⟨g,0,none⟩) l.length l.length) (some l):=fun N=>⟨_,0,_,rfl,N.lt,fun k Z=>by rw[N.rules.1];simp[xY,Z]⟩;have C:Hid (∀i (h:i<M.ins.length),uA w (.slice (some ⟨M.ins[i].1,0,none⟩) M.ins[i].2.2.length M.ins[i].2.2.length) (some M.ins[i].2.2)/\uA w (.slice (some ⟨M.ins[i].2.1,0,none⟩) M.ins[i].2.2.length M.ins[i].2.2.length) (some M.ins[i].2.2)/\M.ins[i].2.2.length<=1048576):=fun i x=>⟨f (h.ints _ (zs x)).one,f (h.ints _ (zs x)).two,(h.ints _ (zs x)).len⟩;have H:=Q7 fun W (v:μ w W)=>Ix W wb _ _ _ _ _ _ _ _ _ _ _ _ (t.below v);clear h f;go_enter func58,ntmps58;go_wp2;go_loopw [3] (fun z wr=>∃i:Nat,i<=M.ins.length/\z=ι i/\μ w wr) (fun z _=>M.ins.length-(intOf z).toNat)
 case atStart=>exact⟨0,zv _,rfl,zo _ _⟩
 case round=>
  obtain⟨i,x,rfl,a⟩:=hrel;have O:=a.size;have j:=t.below a;obtain⟨hc,hf,Y⟩:=j.boxed;by_cases b:i<M.ins.length
  ·obtain⟨T,rfl,D,c⟩:=o.cell i (by rw[s];exact b);obtain⟨g2,rfl,A,d⟩:=n.cell i (by rw[m];exact b);rw[E.out i b] at c;rw[y.out i b] at d;have ab:=zl a D c;have af:=zl a A d;have L:T<wr.heap.size:=by omega
   have R:g2<wr.heap.size:=by omega
   obtain⟨q,r,ac⟩:=C.out i b;clear c d;generalize M.ins[i].1=ga at *;generalize M.ins[i].2.1=gc at *;generalize M.ins[i].2.2=l at *;have J:=Q7 fun W v=>Cl W _ _ (some l) (q.below v) (r.below v) (by show l.length<=_;omega);clear q r;go_wp2;go_region_with (go_at_call 18;refine(J.out _ (by exact zJ a 1)).mono ?_;rintro e w1 ⟨rfl,G⟩)
   all_goals
    go_wp2;go_roundw
    ·exact⟨i+1,by omega,by go_num,QB (zJ a 1) G⟩
    ·simp[intOf];omega
  ·go_wp2;go_loop [5] (fun i=>i=ι 0) (fun _=>0)
   case atStart=>rfl
   case round=>
    subst hrel;go_wp2_with (go_at_call 39;refine(H.out _ a).mono ?_;rintro e w1 ⟨rfl,F⟩;obtain rfl:=F.symm)
    go_ret;exact⟨rfl,a⟩
theorem M7(B:Nat)(w:World)(wb:Nat)(M:OM)(V:OV)(h:QZ B w wb M V)(p:lm)(J:p∈M.ps)(a b c:Int)(s:ByteArray)(o:RG b)(hc:RG c)(S:M.rs.length<=1048576)(F:M.ord.length<=1048577):
  Calls prog 96 #[(π wb),.agg #[.pointer (some ⟨p.1,0,none⟩),.pointer (some ⟨p.2.1,0,none⟩)],.agg #[ι 7,ι a,ι b,ι c,.string s]] w fun e d=>uI B w wb M e d:=by
 have t:Hid (∀W,μ w W->Calls prog 17 #[(π wb),.agg #[.pointer (some ⟨p.1,0,none⟩),.pointer (some ⟨p.2.1,0,none⟩)],V.orv,.bool M.none,ι b,ι c] W fun e d=>mq B W wb M V e d):=fun W k=>Pq B W wb M V (h.below k) p J b c o hc S F;have C:=h.size;have y:∀b∈wb::V.rsv.ownBlock.toList,b<w.heap.size:=fun b o=>by
  rcases zx.1 o with rfl|o
  ·exact h.box.lt
  ·exact xI h.ors (yr o)
 have v:=Q7 y;have HW:=Q7 h;have u:Hid (∀W,μ w W->W.cell? ⟨wb,7,none⟩=some V.orv/\W.cell? ⟨wb,8,none⟩=some (.bool M.none)/\wb<W.heap.size):=fun W k=>by
  have q:=h.box.below k;exact⟨by rw[q.rules.1];rfl,by rw[q.rules.1];rfl,q.lt⟩
 clear h y J;generalize p.1=j at *;generalize p.2.1=m at *;go_enter func96,ntmps96;go_upto_region 3 with fail
 have r:Hid (μ w ((w.alloc (.cells #[(π j),(π m)] 40)).alloc (.cells #[ι 7,ι a,ι b,ι c,.string s] 67))):=(show μ w _ from(by repeat'(first|with_reducible(first|apply zR|assumption|apply zN|apply zA|apply zD|apply zS)|go_size)));have g:=Q7 ((Q8.new w #[(π j),(π m)] 40).up (.cells #[ι 7,ι a,ι b,ι c,.string s] 67));have f:=Q7 (Q8.newAt (w.alloc (.cells #[(π j),(π m)] 40)) (w.heap.size+1) #[ι 7,ι a,ι b,ι c,.string s] 67 (by simp));generalize (w.alloc (.cells #[(π j),(π m)] 40)).alloc (.cells #[ι 7,ι a,ι b,ι c,.string s] 67)=G at *;obtain⟨w7,w8,P⟩:=u.out _ r.out;have X:=g.out.rules.1 0;have R:=g.out.rules.1 1;have U:=g.out.lt;have T:=f.out.rules.1 2;have Q:=f.out.rules.1 3;have O:=f.out.lt;simp at X R T Q;have E:Hid (∀W,μ G W->Calls prog 17 #[(π wb),.agg #[(π j),(π m)],V.orv,.bool M.none,ι b,ι c] W fun e d=>e=ε (.bool true)/\Hid (∃i Y,i.length<=M.rs.length+1/\QZ B d wb {M with rs:=i} {V with rsv:=Y})/\Hid (Below B w d)/\d.cell? ⟨wb,7,none⟩=some V.orv/\d.cell? ⟨wb,8,none⟩=some (.bool M.none)/\d.cell? ⟨w.heap.size,0,none⟩=some ((π j))/\d.cell? ⟨w.heap.size,1,none⟩=some ((π m))/\d.cell? ⟨w.heap.size+1,2,none⟩=some (ι b)/\d.cell? ⟨w.heap.size+1,3,none⟩=some (ι c)):=fun W k=>by
  have n:=QB r.out k;refine(t.out W n).mono ?_;rintro e d ⟨r1,K,Z,L⟩;have I:=(g.out.below k).save L.out (fun D=>by have:=v.out _ D;omega);have N:=(f.out.below k).save L.out (fun D=>by have:=v.out _ D;omega);obtain⟨i,x,_,l⟩:=K.out;have H:=l.bx;exact⟨r1,K,(n.mono C).trans Z.out,by rw[H.rules.1];rfl,by rw[H.rules.1];rfl,by rw[I.rules.1];rfl,by rw[I.rules.1];rfl,by rw[N.rules.1];rfl,by rw[N.rules.1];rfl⟩
 clear g f t u;go_region_held3 (fun d=>d.cell? ⟨wb,7,none⟩=some V.orv/\d.cell? ⟨wb,8,none⟩=some (.bool M.none)/\d.cell? ⟨w.heap.size,0,none⟩=some ((π j))/\d.cell? ⟨w.heap.size,1,none⟩=some ((π m))/\d.cell? ⟨w.heap.size+1,2,none⟩=some (ι b)/\d.cell? ⟨w.heap.size+1,3,none⟩=some (ι c)) (first|go_keep|(go_simp;done)) (first|(go_at_call 17;refine(E.out _ (by exact(by repeat'(first|with_reducible(first|apply zR|assumption|apply zN|apply zA|apply zD|apply zS)|go_size)))).mono ?_;rintro e w5 ⟨rfl,z,A,z1,z2,z3,z4,z5,z6⟩))
 all_goals
  go_wp2;go_ret;obtain⟨i,x,q,l⟩:=z.out;exact⟨rfl,⟨_,_,⟨by simp,q,by simp,by simp,by simp⟩,l⟩,A⟩
theorem PI(B:Nat)(w:World)(wb:Nat)(M:OM)(V:OV)(h:QZ B w wb M V)(r:lh)(p:r∈M.rs)(a b c:Int)(s:ByteArray):
  Calls prog 97 #[(π wb),.agg #[.pointer (some ⟨r.1,0,none⟩),.pointer (some ⟨r.2.1,0,none⟩),.pointer (some ⟨r.2.2,0,none⟩)],.agg #[ι 11,ι a,ι b,ι c,.string s]] w fun e g=>uI B w wb M e g:=by
 have f:Hid (∀W,μ w W->Calls prog 20 #[.agg #[.pointer (some ⟨r.1,0,none⟩),.pointer (some ⟨r.2.1,0,none⟩),.pointer (some ⟨r.2.2,0,none⟩)]] W fun e g=>e=ε (.bool true)/\Hid (μ W g)):=fun W u=>by
  obtain⟨y,q,t,A,d,n,k,m,j,l,o⟩:=(h.below u).ress r p;exact OS W _ _ _ y q t A d n k m j l o
 have x:=Q7 h;clear h p;generalize r.1=j at *;generalize r.2.1=l at *;generalize r.2.2=o at *;go_enter func97,ntmps97;go_wp2_with (go_at_call 20;refine(f.out _ (by exact(by repeat'(first|with_reducible(first|apply zR|assumption|apply zN|apply zA|apply zD|apply zS)|go_size)))).mono ?_;rintro e v ⟨rfl,i⟩)
 go_ret;have z:μ w v:=zQ (show μ w _ from(by repeat'(first|with_reducible(first|apply zR|assumption|apply zN|apply zA|apply zD|apply zS)|go_size))) i.out (zg _);exact uI.kept x.out z
theorem Du(w:World)(wb:Nat)(k a b c:Int)(s:ByteArray)(f:k=7∨k=11):
  Calls prog 94 #[(π wb),.agg #[ι k,ι a,ι b,ι c,.string s]] w fun e d=>e=ε (.bool false)/\μ w d:=by
 rcases f with rfl|rfl
 all_goals
  go_enter func94,ntmps94;go_wp2;go_ret;exact⟨rfl,(by repeat'(first|with_reducible(first|apply zR|assumption|apply zN|apply zA|apply zD|apply zS)|go_size))⟩
theorem CU:∀(rs:List lh) (k:Nat) (a:k<rs.length),(kx rs)[k*3]?=some (.pointer (some ⟨rs[k].1,0,none⟩))/\(kx rs)[k*3+1]?=some (.pointer (some ⟨rs[k].2.1,0,none⟩))/\(kx rs)[k*3+2]?=some (.pointer (some ⟨rs[k].2.2,0,none⟩))
 |[],k,a=>by simp at a
 |p::r,0,_=>by simp[kx]
 |p::r,k+1,a=>by
  have:=CU r k (by simpa using a);simp only[kx,us] at this ⊢;rw[show(k+1)*3=k*3+1+1+1 from by omega];simpa using this
section
variable {B:Nat} {w:World} {wb:Nat} {M:OM} {V:OV} {a b c:Int} {s:ByteArray}
theorem nu{k:Int}(h:B<=w.heap.size)(i:Hid (∀W,μ w W->Calls prog 94 #[(π wb),.agg #[ι k,ι a,ι b,ι c,.string s]] W fun e f=>uI B W wb M e f)):
  Calls prog 57 #[(π wb),.agg #[ι k,ι a,ι b,ι c,.string s]] w fun e f=>uI B w wb M e f:=by
 go_enter func57,ntmps57;go_wp2_with (go_at_call 94;refine(i.out _ (by exact(by repeat'(first|with_reducible(first|apply zR|assumption|apply zN|apply zA|apply zD|apply zS)|go_size)))).mono ?_;rintro e j ⟨rfl,g,d⟩)
 go_ret;exact⟨rfl,g,(Below.mono (w:=w) (by repeat'(first|with_reducible(first|apply zR|assumption|apply zN|apply zA|apply zD|apply zS)|go_size)) h).trans d.out⟩
theorem OC(h:QZ B w wb M V)(hs:s.size<=1048576)(i:M.ps.length<=1048576):
  Calls prog 57 #[(π wb),.agg #[ι 1,ι a,ι b,ι c,.string s]] w fun e r=>uI B w wb M e r:=by
 have m:=h.size;have q:=Q7 fun W=>OY W wb a b c s;have t:=Q7 fun W (o:μ w W)=>Kb B W wb M V s (h.below o) hs i;clear h;go_enter func57,ntmps57;go_wp2_with (first|(go_at_call 94;refine(q.out _).mono ?_;rintro e v ⟨rfl,d⟩;have g:=(Q8.new w #[ι 1,ι a,ι b,ι c,.string s] 67).below d;obtain⟨n,p,l⟩:=g.boxed;have f:=QB ((zo w.heap.size w).alloc (zg _) (.cells #[ι 1,ι a,ι b,ι c,.string s] 67)) d)|(go_at_call 16;refine(t.out _ (by exact f)).mono ?_;rintro e u ⟨rfl,j,k⟩))
 go_ret;exact⟨rfl,j,(f.mono m).trans k.out⟩
theorem Kf(h:QZ B w wb M V)(ha:-9223372036854775808<=a/\a<=9223372036854775807)(hb:RG b)(hc:RG c)(hn:M.ps.length<=1048576)(hr:M.rs.length<=1048576)(U:M.ord.length<=1048577):
  Calls prog 57 #[(π wb),.agg #[ι 7,ι a,ι b,ι c,.string s]] w fun e k=>uI B w wb M e k:=by
 have C:=Q7 h;have hB:=h.size;obtain⟨I,ad,X,ae,ag,ab⟩:=V;have o:=h.bx;have j:w.ownsRow B 40 2 I M.ps.length (kZ M.ps):=h.ops;obtain⟨af,t,rfl⟩:=zp j;have y:=Q7 fun W=>Du W wb 7 a b c s (zf rfl);clear h;by_cases l:0<M.ps.length
 ·obtain⟨i,q⟩:∃i,i=ku a M.ps.length:=⟨_,rfl⟩;have x:i<M.ps.length:=by rw[q];exact mJ a l
  have N:Hid (∀W:World,Calls prog 95 #[ι a,ι M.ps.length] W fun e k=>e=ε (ι (i:Int))/\k=W):=fun W=>by rw[q];exact mP W a M.ps.length l (by omega) ha
  clear q;obtain⟨E,K,Y,_,A,m⟩:=yx j (by omega);simp only[Value.slice.injEq] at Y;obtain⟨rfl,_,rfl⟩:=Y;obtain⟨z,u⟩:=B0 M.ps i x;have v:=m _ _ z;have r:=m _ _ u;have R:=Q7 fun W (hW:μ w W)=>M7 B W wb M _ (C.out.below hW) M.ps[i] (zs x) a b c s hb hc hr U;clear z u C j m;generalize M.ps[i].1=q1 at *;generalize M.ps[i].2.1=q2 at *;generalize H:M.ps.length=n at *;clear H;go_enter func57,ntmps57;go_wp2_with (go_at_call 94;refine(y.out _).mono ?_;rintro e D ⟨rfl,f⟩;have p:=(Q8.new w #[ι _,ι a,ι b,ι c,.string s] 67).below f;obtain⟨S,T,G⟩:=p.boxed;have d:μ w D:=zQ (by repeat'(first|with_reducible(first|apply zR|assumption|apply zN|apply zA|apply zD|apply zS)|go_size)) f (zg _);have g:=o.below d;obtain⟨O,F,L⟩:=g.boxed;have ah:=zl d A v;have ac:=zl d A r;have aa:=d.size;have Z:E<D.heap.size:=(by omega))
  go_region_held3 (fun k=>k.cell? ⟨wb,0,none⟩=some (.slice (some ⟨E,0,none⟩) n t)/\k.cell? ⟨w.heap.size,1,none⟩=some (ι a)/\k.cell? ⟨E,i*2,none⟩=some ((π q1))/\k.cell? ⟨E,i*2+1,none⟩=some ((π q2))) (go_keep) (first|(go_at_call 95;refine(N.out _).mono ?_;rintro e k ⟨rfl,P⟩;obtain rfl:=P.symm))
  all_goals
   go_wp2_with (go_at_call 96;refine(R.out _ (by exact(by repeat'(first|with_reducible(first|apply zR|assumption|apply zN|apply zA|apply zD|apply zS)|go_size)))).mono ?_;rintro e w3 ⟨rfl,J,Q⟩)
   go_ret;exact⟨rfl,J,(Below.mono (w:=w) (by repeat'(first|with_reducible(first|apply zR|assumption|apply zN|apply zA|apply zD|apply zS)|go_size)) hB).trans Q.out⟩
 ·have h0:M.ps.length=0:=by omega
  have HK:Hid (∀W,μ w W->uI B w wb M (ε (.bool true)) W):=fun W=>uI.kept C.out;clear C j;rw[h0] at o;go_enter func57,ntmps57;go_wp2_with (go_at_call 94;refine(y.out _).mono ?_;rintro e D ⟨rfl,f⟩;have p:=(Q8.new w #[ι _,ι a,ι b,ι c,.string s] 67).below f;obtain⟨S,T,G⟩:=p.boxed;have d:μ w D:=zQ (by repeat'(first|with_reducible(first|apply zR|assumption|apply zN|apply zA|apply zD|apply zS)|go_size)) f (zg _);have g:=o.below d;obtain⟨O,F,L⟩:=g.boxed)
  go_ret;exact HK.out _ d
theorem KA(h:QZ B w wb M V)(ha:-9223372036854775808<=a/\a<=9223372036854775807)(hn:M.rs.length<=1048576):
  Calls prog 57 #[(π wb),.agg #[ι 11,ι a,ι b,ι c,.string s]] w fun e j=>uI B w wb M e j:=by
 have F:=Q7 h;have hB:=h.size;obtain⟨ae,S,Y,ag,ai,ac⟩:=V;have p:=h.bx;have l:w.ownsRow B 50 3 S M.rs.length (kx M.rs):=h.ors;obtain⟨ah,t,rfl⟩:=zp l;have y:=Q7 fun W=>Du W wb 11 a b c s (zb rfl);clear h;by_cases m:0<M.rs.length
 ·obtain⟨f,r⟩:∃f,f=ku a M.rs.length:=⟨_,rfl⟩;have u:f<M.rs.length:=by rw[r];exact mJ a m
  have O:Hid (∀W:World,Calls prog 95 #[ι a,ι M.rs.length] W fun e j=>e=ε (ι (f:Int))/\j=W):=fun W=>by rw[r];exact mP W a M.rs.length m (by omega) ha
  clear r;obtain⟨D,L,Z,_,o,k⟩:=yx l (by omega);simp only[Value.slice.injEq] at Z;obtain⟨rfl,_,rfl⟩:=Z;obtain⟨C,v,z⟩:=CU M.rs f u;have x:=k _ _ C;have E:=k _ _ v;have A:=k _ _ z;have T:=Q7 fun W (hW:μ w W)=>PI B W wb M _ (F.out.below hW) M.rs[f] (zs u) a b c s;clear C v z F l k;generalize M.rs[f].1=q1 at *;generalize M.rs[f].2.1=q2 at *;generalize M.rs[f].2.2=q3 at *;generalize J:M.rs.length=n at *;clear J;go_enter func57,ntmps57;go_wp2_with (go_at_call 94;refine(y.out _).mono ?_;rintro e G ⟨rfl,g⟩;have q:=(Q8.new w #[ι _,ι a,ι b,ι c,.string s] 67).below g;obtain⟨U,X,I⟩:=q.boxed;have d:μ w G:=zQ (by repeat'(first|with_reducible(first|apply zR|assumption|apply zN|apply zA|apply zD|apply zS)|go_size)) g (zg _);have i:=p.below d;obtain⟨P,H,N⟩:=i.boxed;have ad:=zl d o x;have af:=zl d o E;have aj:=zl d o A;have ab:=d.size;have aa:D<G.heap.size:=(by omega))
  go_region_held3 (fun j=>j.cell? ⟨wb,1,none⟩=some (.slice (some ⟨D,0,none⟩) n t)/\j.cell? ⟨w.heap.size,1,none⟩=some (ι a)/\j.cell? ⟨D,f*3,none⟩=some ((π q1))/\j.cell? ⟨D,f*3+1,none⟩=some ((π q2))/\j.cell? ⟨D,f*3+2,none⟩=some ((π q3))) (go_keep) (first|(go_at_call 95;refine(O.out _).mono ?_;rintro e j ⟨rfl,Q⟩;obtain rfl:=Q.symm))
  all_goals
   go_wp2_with (go_at_call 97;refine(T.out _ (by exact(by repeat'(first|with_reducible(first|apply zR|assumption|apply zN|apply zA|apply zD|apply zS)|go_size)))).mono ?_;rintro e w3 ⟨rfl,K,R⟩)
   go_ret;exact⟨rfl,K,(Below.mono (w:=w) (by repeat'(first|with_reducible(first|apply zR|assumption|apply zN|apply zA|apply zD|apply zS)|go_size)) hB).trans R.out⟩
 ·have h0:M.rs.length=0:=by omega
  have HK:Hid (∀W,μ w W->uI B w wb M (ε (.bool true)) W):=fun W=>uI.kept F.out;clear F l;rw[h0] at p;go_enter func57,ntmps57;go_wp2_with (go_at_call 94;refine(y.out _).mono ?_;rintro e G ⟨rfl,g⟩;have q:=(Q8.new w #[ι _,ι a,ι b,ι c,.string s] 67).below g;obtain⟨U,X,I⟩:=q.boxed;have d:μ w G:=zQ (by repeat'(first|with_reducible(first|apply zR|assumption|apply zN|apply zA|apply zD|apply zS)|go_size)) g (zg _);have i:=p.below d;obtain⟨P,H,N⟩:=i.boxed)
  go_ret;exact HK.out _ d
end
theorem Oi(B:Nat)(w:World)(wb:Nat)(M:OM)(V:OV)(x:R9)(h:QZ B w wb M V)(d:gT [1,7,11] x.kind)(r:SD x)(hs:x.s.size<=1048576)(l:M.ps.length<=1048576)(n:M.rs.length<=1048576)(p:M.row.length<=1048576)(t:M.ins.length<=1048576)(u:M.ord.length<=1048576):
  Calls prog 57 #[(π wb),.agg #[ι x.kind,ι x.a,ι x.b,ι x.c,.string x.s]] w fun e m=>uI B w wb M e m:=by
 obtain⟨i,j,k⟩:=r;have g:=h.size;rcases d with d|d|d|d
 ·have d:x.kind=2∨x.kind=3∨x.kind=4∨x.kind=5∨x.kind=6:=by omega
  rcases d with d|d|d|d|d<;>rw[d]
  ·exact nu g fun W f=>O3 B W wb M V _ _ _ _ (h.below f) hs (by omega)
  ·exact nu g fun W f=>Mj B W wb M V _ _ _ _ (h.below f) (by omega) i j
  ·exact nu g fun W f=>MS B W wb M V _ _ _ _ (h.below f) ⟨i,j,k⟩
  ·exact nu g fun W f=>JV B W wb M V _ _ _ _ (h.below f) i (by omega) (by omega)
  ·exact nu g fun W f=>PE B W wb M V _ _ _ _ (h.below f)
 ·rw[d];exact nu g fun W f=>Pm B W wb M V _ _ _ _ (h.below f) p
 ·rw[d];exact nu g fun W f=>(Jj W wb _ _ _ _ _ _ _ _ _ _ _ _ _ _ _ _ _ (h.below f).bx).mono fun e m q=>by obtain⟨rfl,o⟩:=q;exact uI.kept (h.below f) o
 ·simp only[zx,fG,or_false] at d;rcases d with d|d|d<;>rw[d]
  ·exact OC h hs l
  ·exact Kf h i j k l n (by omega)
  ·exact KA h i n
end
end Go.Proofs.YteampbddflhngaaGreat
