import Derived.Test.YteampbddflhngaaGreatZ29
import Derived.Test.YteampbddflhngaaGreatZ30
namespace Go.Proofs.YteampbddflhngaaGreat
set_option linter.all false
set_option maxRecDepth 100000
set_option maxHeartbeats 2000000
open Go.RowKit
theorem QN.runok{cs:List zd}{u t:List zh}(h:QN cs u t):pA cs t none/\nI (vd t (zq cs) none cs):=by
 have b:nI (vd t (zq cs) none cs):=ib h _ none (fun i w=>pd (lu (h.many _ (zs w))));obtain⟨_,j,o⟩:=h.low;have q:=h.few;have s:=oX cs;have p:=M6 cs;have m:(zq cs).length<=500:=by
  have:=EC cs [];simp only[dK,vB] at this;show(cs.foldl qs []).length<=500;omega
 have d:=eF (cs:=cs) (by omega);have e:∀c∈cs,c.body.length<=6:=fun c g=>(mj (h.many c g)).2.1;refine⟨⟨by omega,by omega,d,fun c g=>⟨(d c g).1,by have:=e c g;omega⟩,⟨by omega,by omega,fun c g=>(d c g).2⟩,by omega,fun n=>by have:=o n;omega,by simp,by simp,fun _=>by simp,fun _=>⟨fun r k=>⟨fun l j=>((b.rules.rules r k).qc l j).1,fun l j=>⟨((b.rules.rules r k).qp l j).1,b.rules.apart r k r k rfl l j⟩⟩,?_,fun a v=>by have:=b.small a v;omega,fun f q=>(b.facts f q).2.1.1,?_,by show(zq cs).length<=1000;omega⟩⟩,b⟩
 ·show(t.map (·.jh)).length<=1000;simp;omega
 ·show(vI t (zq cs) cs).length<=1000000;have:(vI t (zq cs) cs).length<=cs.length:=by
   unfold vI;rw[uu];exact pf _ _
  omega
section
open Go.Proofs.Tryz
def GO(o:Option (DB×Nat))(w:World)(e:Ending)(w':World):Prop:=match o with
 |none=>e=ε (.tuple #[.pointer none,ι 10])/\μ w w'
 |some x=>∃(a k b:Nat) (m:Int) (d c f:Value),e=ε (.tuple #[(π b),ι 0])/\Q8 w' b #[d,c,f,ι a,ι k,ι m] 156/\k=x.2/\fI x.1 a/\a<=1048576/\0<=m/\μ w w'
theorem Pt{k:Nat}(w:World)(pb:Nat){s:ByteArray}{cs:List zd}{v t:List zh}(H:xL s=.ok (cs,t))(p:ks k w pb cs t)(h:QN cs v t)(d:k<=w.heap.size)(f:Value)(os:Option (List (Option (List Int))))(I:jF w f os)(q:vq cs os=true)(x:pA cs t os)(b:nI (vd t (zq cs) os cs))(y:∀i (L:i<cs.length),ka (yB ((xW os i).getD [])) (zw cs[i]).length)(mr mx:Nat)(m:mr<=1048576)(g:mx<=1048576):
  Calls prog 35 #[(π pb),f,ι mr,ι mx] w fun e j=>GO (z1m (vd t (zq cs) os cs) mr mx) w e j:=by
 obtain⟨N,C⟩:=MI b (mr:=mr) (mx:=mx) m;obtain⟨c,l,B,D⟩:=C N (zg _);refine(K0 w pb cs t f os mr mx N c p I x q m g d l).mono ?_;intro e j a;cases c with
 |none=>rw[B rfl];exact a
 |some R=>
  obtain⟨o,M,J⟩:=D R rfl;obtain⟨F,A,n,E,r,K,u,z,G⟩:=a;rw[J];exact⟨R.count,R.qw,F,R.jf,A,n,E,u,z.box,rfl,o.card b.small,by omega,Ik H h os y g l,G⟩
theorem IQ(w:World)(c:Nat)(g d f:Value)(a k:Nat)(m:Int)(h:Q8 w c #[g,d,f,ι a,ι k,ι m] 156):
  Calls prog 42 #[(π c)] w fun e i=>e=ε (.tuple #[ι a,ι k,ι m])/\∃n,i=w.drewN n:=by
 obtain⟨b,q⟩:=h.rules;have o:=h.lt;have p:=b 3;have l:=b 4;have j:=b 5;clear h b;go_enter func42,ntmps42;go_upto_region 1 with fail
 go_quiet (fail)
 go_wp2;go_ret3
 exact⟨rfl,_,rfl⟩
theorem OS(w:World)(x m p:Nat)(f c d:Value)(h:Option Addr)(cap a k:Nat)(b:Int)(g:Q8 w x #[f,c,d,ι a,ι k,ι b] 156)(j:Q8 w m #[.slice h a cap,ι k] 54)(t:0<=b):
  Calls prog 20 #[.agg #[(π x),(π m),(π p)]] w fun e l=>e=ε (.bool true)/\Hid (μ w l):=by
 have o:=Q7 fun W (i:μ w W)=>IQ W x f c d a k b (g.below i);obtain⟨q,r,s⟩:=j.boxed;clear g;go_enter func20,ntmps20;go_wp2_with (go_at_call 42;refine(o.out _ (by exact(by repeat'(first|with_reducible(first|apply zR|assumption|apply zN|apply zA|apply zD|apply zS)|go_size)))).mono ?_;rintro e u ⟨rfl,n,rfl⟩)
 go_ret;exact⟨rfl,zJ (by repeat'(first|with_reducible(first|apply zR|assumption|apply zN|apply zA|apply zD|apply zS)|go_size)) n⟩
end
end Go.Proofs.YteampbddflhngaaGreat
