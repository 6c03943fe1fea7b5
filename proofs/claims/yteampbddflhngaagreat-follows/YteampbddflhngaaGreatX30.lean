import Derived.Test.YteampbddflhngaaGreatX28
import Derived.Test.YteampbddflhngaaGreatX29
namespace Go.Proofs.YteampbddflhngaaGreat
set_option linter.all false
set_option maxRecDepth 100000
set_option maxHeartbeats 2000000
section
open Classical
def EN(a:List Nat)(n:Nat)(D:DB):Prop:=∀p x,P9 D p x->∀i,i<a.getD p 0->x.getD i 0<n
theorem mU{ns:List ByteArray}(l:y5 ns){d:Nat}(o:d<=3){r:zk}(j:PG d r)(n:∀i,i<d->r.getD i 0<ns.length):fS ns (uf ns r d 3) 0 [0,0,0]=some r:=by
 obtain⟨x,y,z,rfl⟩:∃x y z,r=[x,y,z]:=by
  match r,j.1 with
  |[x,y,z],_=>exact⟨x,y,z,rfl⟩
 have e:=j.2;have f:=fun i (q:i<d)=>pR l (n i q);have k:d=0∨d=1∨d=2∨d=3:=by omega
 rcases k with rfl|rfl|rfl|rfl
 ·have a:=e 0 (by omega);have b:=e 1 (by omega);have c:=e 2 (by omega);simp at a b c;subst a;subst b;subst c;rfl
 ·have b:=e 1 (by omega);have c:=e 2 (by omega);simp at b c;subst b;subst c;have g:uj ns (ns[x]?.getD ByteArray.empty)=some x:=by have:=f 0 (by omega);simpa using this
  simp[uf,fS,g]
 ·have c:=e 2 (by omega);simp at c;subst c;have g:uj ns (ns[x]?.getD ByteArray.empty)=some x:=by have:=f 0 (by omega);simpa using this
  have h:uj ns (ns[y]?.getD ByteArray.empty)=some y:=by have:=f 1 (by omega);simpa using this
  simp[uf,fS,g,h,List.range_succ]
 ·have g:uj ns (ns[x]?.getD ByteArray.empty)=some x:=by have:=f 0 (by omega);simpa using this
  have h:uj ns (ns[y]?.getD ByteArray.empty)=some y:=by have:=f 1 (by omega);simpa using this
  have m:uj ns (ns[z]?.getD ByteArray.empty)=some z:=by have:=f 2 (by omega);simpa using this
  simp[uf,fS,g,h,m,List.range_succ]
end
section
open Go.Proofs.Tryz Go.RowKit
def GJ(o:Option (DB×Nat))(w:World)(e:Ending)(b:World):Prop:=match o with
 |none=>e=.returned (.tuple #[.pointer none,.int .i64 10])/\Below w.heap.size w b
 |some x=>∃(a k c:Nat) (m:Int) (f d g:Value),e=.returned (.tuple #[.pointer (some ⟨c,0,none⟩),.int .i64 0])/\Py b c #[f,d,g,.int .i64 a,.int .i64 k,.int .i64 m] 156/\k=x.2/\fF x.1 a/\a<=1048576/\0<=m/\Below w.heap.size w b
theorem Nl{k:Nat}(w:World)(pb:Nat){s:ByteArray}{cs:List zc}{p t:List zh}(B:uc s=.ok (cs,t))(A:ki k w pb cs t)(h:PI cs p t)(f:k<=w.heap.size)(d:Value)(os:Option (List (Option (List Int))))(G:gG w d os)(y:fX cs os=true)(D:wm cs t os)(a:rz (vS t (zp cs) os cs))(J:∀i (K:i<cs.length),gV (yQ ((uw os i).getD [])) (z7 cs[i]).length)(mr mx:Nat)(l:mr<=1048576)(j:mx<=1048576):
  Calls prog 35 #[.pointer (some ⟨pb,0,none⟩),d,.int .i64 mr,.int .i64 mx] w fun e g=>GJ (z3f (vS t (zp cs) os cs) mr mx) w e g:=by
 obtain⟨N,x⟩:=Ma a (mr:=mr) (mx:=mx) l;obtain⟨c,m,u,r⟩:=x N (zf _);refine(NM w pb cs t d os mr mx N c A G D y l j f m).mono ?_;intro e g b;cases c with
 |none=>rw[u rfl];exact b
 |some R=>
  obtain⟨z,L,n⟩:=r R rfl;obtain⟨v,F,o,I,E,M,H,q,C⟩:=b;rw[n];exact⟨R.count,R.qw,v,R.jf,F,o,I,H,q.box,rfl,z.card a.small,by omega,FR B h os J j m,C⟩
theorem Lq(w:World)(c:Nat)(f d g:Value)(a k:Nat)(m:Int)(h:Py w c #[f,d,g,.int .i64 a,.int .i64 k,.int .i64 m] 156):
  Calls prog 42 #[.pointer (some ⟨c,0,none⟩)] w fun e i=>e=.returned (.tuple #[.int .i64 a,.int .i64 k,.int .i64 m])/\∃n,i=w.drewN n:=by
 obtain⟨b,j⟩:=h.rules;have p:=h.lt;have l:=b 3;have o:=b 4;have q:=b 5;clear h b;go_enter func42,ntmps42;go_upto_region 1 with fail
 go_quiet (fail)
 go_wp2;go_ret3
 exact⟨rfl,_,rfl⟩
theorem Mh(w:World)(x m p:Nat)(d c g:Value)(o:Option Addr)(cap a k:Nat)(b:Int)(f:Py w x #[d,c,g,.int .i64 a,.int .i64 k,.int .i64 b] 156)(h:Py w m #[.slice o a cap,.int .i64 k] 54)(t:0<=b):
  Calls prog 20 #[.agg #[.pointer (some ⟨x,0,none⟩),.pointer (some ⟨m,0,none⟩),.pointer (some ⟨p,0,none⟩)]] w fun e l=>e=.returned (.bool true)/\Hid (Below w.heap.size w l):=by
 have j:=Px fun W (i:Below w.heap.size w W)=>Lq W x d c g a k b (f.below i);obtain⟨u,q,s⟩:=h.boxed;clear f;go_enter func20,ntmps20;go_wp2_with (first|(go_at_call 42;refine(j.out _ (by exact(by repeat'(first|with_reducible(first|apply zR|assumption|apply zN|apply zA|apply zD|apply zS)|go_size)))).mono ?_;rintro e r ⟨rfl,n,rfl⟩))
 go_ret;exact⟨rfl,zL (by repeat'(first|with_reducible(first|apply zR|assumption|apply zN|apply zA|apply zD|apply zS)|go_size)) n⟩
end
end Go.Proofs.YteampbddflhngaaGreat
