import Derived.Test.YteampbddflhngaaGreatZ29
import Derived.Test.YteampbddflhngaaGreatZ30
namespace Go.Proofs.YteampbddflhngaaGreat
set_option linter.all false
set_option maxRecDepth 100000
set_option maxHeartbeats 2000000
open Go.RowKit
theorem QL.runok{cs:List zd}{w t:List zh}(h:QL cs w t):pk cs t none/\nL (vj t (zq cs) none cs):=by
 have b:nL (vj t (zq cs) none cs):=oD h _ none (fun i u=>pS (lm (h.many _ (zs u))));obtain⟨_,j,o⟩:=h.low;have s:=h.few;have q:=i6 cs;have m:=Iq cs;have p:(zq cs).length<=500:=by
  have:=Ek cs [];simp only[dD,vz] at this;show(cs.foldl qI []).length<=500;omega
 have d:=i3 (cs:=cs) (by omega);have e:∀c∈cs,c.body.length<=6:=fun c g=>(mz (h.many c g)).2.1;refine⟨⟨by omega,by omega,d,fun c g=>⟨(d c g).1,by have:=e c g;omega⟩,⟨by omega,by omega,fun c g=>(d c g).2⟩,by omega,fun n=>by have:=o n;omega,by simp,by simp,fun _=>by simp,fun _=>⟨fun r k=>⟨fun l j=>((b.rules.rules r k).qc l j).1,fun l j=>⟨((b.rules.rules r k).qp l j).1,b.rules.apart r k r k rfl l j⟩⟩,?_,fun a v=>by have:=b.small a v;omega,fun f s=>(b.facts f s).2.1.1,?_,by show(zq cs).length<=1000;omega⟩⟩,b⟩
 ·show(t.map (·.jh)).length<=1000;simp;omega
 ·show(vB t (zq cs) cs).length<=1000000;have:(vB t (zq cs) cs).length<=cs.length:=by
   unfold vB;rw[uu];exact p8 _ _
  omega
section
open Go.Proofs.Tryz
def OU(o:Option (DB×Nat))(w:World)(e:Ending)(w':World):Prop:=match o with
 |none=>e=ε (.tuple #[.pointer none,ι 10])/\μ w w'
 |some x=>∃(a k b:Nat) (m:Int) (f d c:Value),e=ε (.tuple #[(π b),ι 0])/\Q6 w' b #[f,d,c,ι a,ι k,ι m] 156/\k=x.2/\hU x.1 a/\a<=1048576/\0<=m/\μ w w'
theorem Jf{l:Nat}(w:World)(pb:Nat){s:ByteArray}{cs:List zd}{I t:List zh}(n:xQ s=.ok (cs,t))(q:km l w pb cs t)(h:QL cs I t)(d:l<=w.heap.size)(f:Value)(os:Option (List (Option (List Int))))(o:jC w f os)(D:vi cs os=true)(r:pk cs t os)(a:nL (vj t (zq cs) os cs))(p:∀i (K:i<cs.length),kc (yD ((xV os i).getD [])) (zw cs[i]).length)(mr mx:Nat)(j:mr<=1048576)(g:mx<=1048576):
  Calls prog 35 #[(π pb),f,ι mr,ι mx] w fun e k=>OU (z1m (vj t (zq cs) os cs) mr mx) w e k:=by
 obtain⟨N,E⟩:=IS a (mr:=mr) (mx:=mx) j;obtain⟨c,m,H,B⟩:=E N (zg _);refine(G6 w pb cs t f os mr mx N c q o r D j g d m).mono ?_;intro e k b;cases c with
 |none=>rw[H rfl];exact b
 |some R=>
  obtain⟨v,M,z⟩:=B R rfl;obtain⟨A,G,J,u,x,L,F,y,C⟩:=b;rw[z];exact⟨R.count,R.qw,A,R.jf,G,J,u,F,y.box,rfl,v.card a.small,by omega,Nx n h os p g m,C⟩
theorem Ia(w:World)(c:Nat)(i g f:Value)(a k:Nat)(m:Int)(h:Q6 w c #[i,g,f,ι a,ι k,ι m] 156):
  Calls prog 42 #[(π c)] w fun e d=>e=ε (.tuple #[ι a,ι k,ι m])/\∃n,d=w.drewN n:=by
 obtain⟨b,o⟩:=h.rules;have l:=h.lt;have q:=b 3;have p:=b 4;have j:=b 5;clear h b;go_enter func42,ntmps42;go_upto_region 1 with fail
 go_quiet (fail)
 go_wp2;go_ret3
 exact⟨rfl,_,rfl⟩
theorem FK(w:World)(x m p:Nat)(g f d:Value)(l:Option Addr)(cap a k:Nat)(b:Int)(c:Q6 w x #[g,f,d,ι a,ι k,ι b] 156)(o:Q6 w m #[.slice l a cap,ι k] 54)(u:0<=b):
  Calls prog 20 #[.agg #[(π x),(π m),(π p)]] w fun e j=>e=ε (.bool true)/\Hid (μ w j):=by
 have i:=Q5 fun W (h:μ w W)=>Ia W x g f d a k b (c.below h);obtain⟨q,t,s⟩:=o.boxed;clear c;go_enter func20,ntmps20;go_wp2_with (go_at_call 42;refine(i.out _ (by exact(by repeat'(first|with_reducible(first|apply zR|assumption|apply zN|apply zA|apply zD|apply zS)|go_size)))).mono ?_;rintro e r ⟨rfl,n,rfl⟩)
 go_ret;exact⟨rfl,zJ (by repeat'(first|with_reducible(first|apply zR|assumption|apply zN|apply zA|apply zD|apply zS)|go_size)) n⟩
end
end Go.Proofs.YteampbddflhngaaGreat
