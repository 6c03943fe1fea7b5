import Derived.Test.YteampbddflhngaaGreatZ19
namespace Go.Proofs.YteampbddflhngaaGreat
set_option linter.all false
set_option maxRecDepth 100000
set_option maxHeartbeats 2000000
open Go.RowKit
section
variable {lo:Nat}
def Se(lo:Nat)(T:TypeId)(w:World)(v:Value)(xs:List Value):Prop:=w.ownsRow lo T 1 v xs.length xs
theorem Se.cell{T:TypeId}{w:World}{c:Option Addr}{n cap:Nat}{xs:List Value}(h:Se lo T w (.slice c n cap) xs)(k:Nat)(f:k<xs.length):∃g,c=some ⟨g,0,none⟩/\g<w.heap.size/\w.cell? ⟨g,k,none⟩=some xs[k]:=by
 obtain⟨g,d,b,_,e,a⟩:=yv h (by omega);simp at b;exact⟨g,b.1,e,a k _ (by simp[f])⟩
theorem tA{α β:Type}{f:α->β}{l:List α}{k:Nat}(b:k<l.length){x:α}(a:f x=f l[k]):(l.set k x).map f=l.map f:=by
 rw[dU,a,show f l[k]=(l.map f)[k]'(by simpa using b) by simp,rc]
end
section
open Go.Proofs.Tryz
variable {lo:Nat}
def kh(c:Int)(n:Nat):Nat:=if c<0 then(-(c+1)).toNat%n else c.toNat%n
theorem mh(c:Int){n:Nat}(a:0<n):kh c n<n:=by unfold kh;split<;>exact Nat.mod_lt _ a
theorem mj(w:World)(c:Int)(n:Nat)(j:0<n)(i:n<=281474976710656)(d:-9223372036854775808<=c/\c<=9223372036854775807):
  Calls prog 95 #[ι c,ι n] w fun e f=>e=ε (ι (kh c n:Int))/\f=w:=by
 obtain⟨g,h⟩:=d;by_cases b:c<0
 ·have a:Hid (-(c+1).tmod (n:Int)=(kh c n:Int)):=by
   unfold kh;rw[Hid,zc b,←Int.neg_tmod,Int.tmod_eq_emod_of_nonneg (by omega),Int.natCast_emod,Int.toNat_of_nonneg (by omega)]
  go_enter func95,ntmps95;go_wp2;exact zL (v:=ι (-(c+1).tmod (n:Int))) (by simp[results,results95,go_sem]) rfl ⟨by rw[a.out],rfl⟩
 ·have a:Hid (c%(n:Int)=(kh c n:Int)):=by unfold kh;rw[Hid,za b,Int.natCast_emod,Int.toNat_of_nonneg (by omega)]
  go_enter func95,ntmps95;go_wp2;exact zL (v:=ι (c%(n:Int))) (by simp[results,results95,go_sem]) rfl ⟨by rw[a.out],rfl⟩
end
section
variable {lo:Nat}
section
variable {P:Program} {ops:Array Oper} {o:Oper} {a:Act} {K:Act->World->Prop} {Q:Exit->Act->World->Prop}
end
theorem Fx(s:ByteArray):∀(n i:Nat) (l:List QA),QI n s i=some l->∀x∈l,x.2.size<=6:=by
 intro n;induction n with
 |zero=>intro i l h;simp[QI] at h;subst h;simp
 |succ n g=>
  intro i l h;by_cases a:i<s.size
  ·cases c:qG (QE s i) with
   |true=>rw[wG a c] at h;exact g _ _ h
   |false=>
    generalize d:xa (QE s i) (QE s (i+1))=k;by_cases b:k=0
    ·subst b;rw[tq a c d] at h;exact zC h (by simp)
    ·by_cases f:6<yi s i k-i
     ·rw[wg a c d f] at h;exact zC h (by simp)
     ·rw[sL a c d b f] at h;obtain⟨r,j,rfl⟩:=vN.1 h;intro x e;rcases zx.1 e with rfl|e
      ·rw[ByteArray.size_extract];omega
      ·exact g _ _ j x e
  ·rw[pj a] at h;simp at h;subst h;simp
theorem sH{a:zj}{l:List QA}(h:qv a l):∃y∈l,y.2=a.pred:=by
 cases h with
 |bare=>exact⟨_,ro,rfl⟩
 |args=>exact⟨_,ro,rfl⟩
theorem BN{a:zj}{l:List QA}(h:gy a l):∃y∈l,y.2=a.pred:=by
 cases h with
 |qc h=>exact sH h
 |neg _ h=>obtain⟨y,b,e⟩:=sH h;exact⟨y,by simp[b],e⟩
theorem N2:∀{b:List zj} {l:List QA},gq b l->∀a∈b,∃y∈l,y.2=a.pred:=by
 intro b l h;induction h with
 |one h=>intro a c;simp at c;subst c;exact BN h
 |more h _ _ f=>
  intro a c;rcases zx.1 c with rfl|c
  ·obtain⟨y,d,e⟩:=BN h;exact⟨y,by simp[d],e⟩
  ·obtain⟨y,d,e⟩:=f a c;exact⟨y,by simp[d],e⟩
theorem KL:∀{cs:List zd} {l:List QA},fd cs l->∀c∈cs,∀a∈zk c,∃y∈l,y.2=a.pred:=by
 intro cs l h;induction h with
 |nil=>intro c f;cases f
 |cons h _ _ i=>
  intro c f a d;rcases zx.1 f with rfl|f
  ·cases h with
   |fact h=>simp[zk] at d;subst d;obtain⟨y,b,e⟩:=sH h;exact⟨y,by simp[b],e⟩
   |rule h _ g=>
    simp only[zk] at d;rcases zx.1 d with rfl|d
    ·obtain⟨y,b,e⟩:=sH h;exact⟨y,by simp[b],e⟩
    ·obtain⟨y,b,e⟩:=N2 g a d;exact⟨y,by simp[b],e⟩
  ·obtain⟨y,b,e⟩:=i c f a d;exact⟨y,by simp[b],e⟩
theorem AF:∀{b:List zj} {l:zj},l∈b->l.args.length<=yU b
 |[],_,h=>by cases h
 |a::r,l,h=>by
  rcases zx.1 h with rfl|h
  ·simp[yU]
  ·have:=AF h;simp[yU] at this ⊢;omega
theorem II{s:ByteArray}{cs:List zd}{t:List zh}(h:xQ s=.ok (cs,t)):i7 cs t:=by
 unfold xQ at h;split at h
 ·cases h
 ·rename_i O;split at h
  ·cases h
  ·rename_i k d;split at h
   ·cases h
   ·rename_i a E;split at h
    ·cases h
    ·rename_i I;split at h
     ·cases h
     ·rename_i q w;split at h
      ·split at h
       ·simp only[Except.ok.injEq,ya] at h;obtain⟨rfl,rfl⟩:=h;have g:xU k:=fun x K=>(pf d x K).1;have C:xe s.size s=some (zU k):=by rw[pX,d];rfl
        have u:vu (zU k)=some a:=by
         have:=eQ s;rw[C,d] at this;simp only[Option.bind_some] at this;rw[this];exact E
        have b:=oi (by omega) C u;have A:=(o5 g a).1 u;have D:=(sS w).2;have B:=wt (q.length+1) q a (wF D);have z:q.length<=1000:=by have:=sw _ _ _ w;have:=b.lits;simp only[dD] at *;omega
        refine⟨b.len,?_,fun c i=>?_,?_⟩
        ·have:=congrArg List.length B;simp[Q8] at this;omega
        ·obtain⟨G,N,M,F⟩:=b.ok c i;have m:c.body.length<=6:=by
          false_or_by_contra
          rename_i P;apply I;rw[gI];refine⟨c,i,?_⟩;have J:6<c.body.length:=by omega
          unfold yE;simp[J]
         refine⟨⟨fun l j=>?_,by omega⟩,G,m,M⟩;obtain⟨y,v,e⟩:=KL A c i l j;have n:=Fx s _ _ _ d y v;have o:=(pf d y v).2;refine⟨by rw[←e];exact n,by rw[←e];exact o,?_,fun r f=>?_⟩
         ·have:=AF j;omega
         ·obtain⟨L,p,H⟩:=Dx A c i l j r f;exact⟨F l j r f,by rw[←H];exact Fx s _ _ _ d L p⟩
        ·rw[B];exact D.rise
       ·cases h
      ·cases h
theorem Cc:∀(ps:List fG) (k:Nat) (a:k<ps.length),(kG ps)[k*2]?=some (.pointer (some ⟨ps[k].1,0,none⟩))/\(kG ps)[k*2+1]?=some (.pointer (some ⟨ps[k].2.1,0,none⟩))
 |[],k,a=>by simp at a
 |p::r,0,_=>by simp[kG]
 |p::r,k+1,a=>by
  have:=Cc r k (by simpa using a);simp only[kG,uw] at this ⊢;rw[show(k+1)*2=k*2+1+1 from by omega,show k*2+1+1+1=k*2+1+1+1 from rfl];simpa using this
end
end Go.Proofs.YteampbddflhngaaGreat
