import Derived.Test.YteampbddflhngaaGreatZ19
namespace Go.Proofs.YteampbddflhngaaGreat
set_option linter.all false
set_option maxRecDepth 100000
set_option maxHeartbeats 2000000
open Go.RowKit
section
variable {lo:Nat}
def Sh(lo:Nat)(T:TypeId)(w:World)(v:Value)(xs:List Value):Prop:=w.ownsRow lo T 1 v xs.length xs
theorem Sh.cell{T:TypeId}{w:World}{c:Option Addr}{n cap:Nat}{xs:List Value}(h:Sh lo T w (.slice c n cap) xs)(k:Nat)(f:k<xs.length):∃g,c=some ⟨g,0,none⟩/\g<w.heap.size/\w.cell? ⟨g,k,none⟩=some xs[k]:=by
 obtain⟨g,d,b,_,e,a⟩:=yx h (by omega);simp at b;exact⟨g,b.1,e,a k _ (by simp[f])⟩
theorem sm{α β:Type}{f:α->β}{l:List α}{k:Nat}(b:k<l.length){x:α}(a:f x=f l[k]):(l.set k x).map f=l.map f:=by
 rw[fu,a,show f l[k]=(l.map f)[k]'(by simpa using b) by simp,rA]
end
section
open Go.Proofs.Tryz
variable {lo:Nat}
def ku(c:Int)(n:Nat):Nat:=if c<0 then(-(c+1)).toNat%n else c.toNat%n
theorem mJ(c:Int){n:Nat}(a:0<n):ku c n<n:=by unfold ku;split<;>exact Nat.mod_lt _ a
theorem mP(w:World)(c:Int)(n:Nat)(j:0<n)(g:n<=281474976710656)(f:-9223372036854775808<=c/\c<=9223372036854775807):
  Calls prog 95 #[ι c,ι n] w fun e h=>e=ε (ι (ku c n:Int))/\h=w:=by
 obtain⟨d,i⟩:=f;by_cases b:c<0
 ·have a:Hid (-(c+1).tmod (n:Int)=(ku c n:Int)):=by
   unfold ku;rw[Hid,zc b,←Int.neg_tmod,Int.tmod_eq_emod_of_nonneg (by omega),Int.natCast_emod,Int.toNat_of_nonneg (by omega)]
  go_enter func95,ntmps95;go_wp2;exact zK (v:=ι (-(c+1).tmod (n:Int))) (by simp[results,results95,go_sem]) rfl ⟨by rw[a.out],rfl⟩
 ·have a:Hid (c%(n:Int)=(ku c n:Int)):=by unfold ku;rw[Hid,za b,Int.natCast_emod,Int.toNat_of_nonneg (by omega)]
  go_enter func95,ntmps95;go_wp2;exact zK (v:=ι (c%(n:Int))) (by simp[results,results95,go_sem]) rfl ⟨by rw[a.out],rfl⟩
end
section
variable {lo:Nat}
section
variable {P:Program} {ops:Array Oper} {o:Oper} {a:Act} {K:Act->World->Prop} {Q:Exit->Act->World->Prop}
end
theorem Aj(s:ByteArray):∀(n i:Nat) (l:List QC),QK n s i=some l->∀x∈l,x.2.size<=6:=by
 intro n;induction n with
 |zero=>intro i l h;simp[QK] at h;subst h;simp
 |succ n g=>
  intro i l h;by_cases b:i<s.size
  ·cases c:qu (QG s i) with
   |true=>rw[tV b c] at h;exact g _ _ h
   |false=>
    generalize e:xb (QG s i) (QG s (i+1))=k;by_cases a:k=0
    ·subst a;rw[tI b c e] at h;exact zC h (by simp)
    ·by_cases f:6<yi s i k-i
     ·rw[sT b c e f] at h;exact zC h (by simp)
     ·rw[wy b c e a f] at h;obtain⟨r,j,rfl⟩:=vM.1 h;intro x d;rcases zx.1 d with rfl|d
      ·rw[ByteArray.size_extract];omega
      ·exact g _ _ j x d
  ·rw[p7 b] at h;simp at h;subst h;simp
theorem tD{a:zj}{l:List QC}(h:qt a l):∃y∈l,y.2=a.pred:=by
 cases h with
 |bare=>exact⟨_,ry,rfl⟩
 |args=>exact⟨_,ry,rfl⟩
theorem Eg{a:zj}{l:List QC}(h:gN a l):∃y∈l,y.2=a.pred:=by
 cases h with
 |qc h=>exact tD h
 |neg _ h=>obtain⟨y,b,e⟩:=tD h;exact⟨y,by simp[b],e⟩
theorem JA:∀{b:List zj} {l:List QC},gy b l->∀a∈b,∃y∈l,y.2=a.pred:=by
 intro b l h;induction h with
 |one h=>intro a c;simp at c;subst c;exact Eg h
 |more h _ _ f=>
  intro a c;rcases zx.1 c with rfl|c
  ·obtain⟨y,d,e⟩:=Eg h;exact⟨y,by simp[d],e⟩
  ·obtain⟨y,d,e⟩:=f a c;exact⟨y,by simp[d],e⟩
theorem Pu:∀{cs:List zd} {l:List QC},f9 cs l->∀c∈cs,∀a∈zk c,∃y∈l,y.2=a.pred:=by
 intro cs l h;induction h with
 |nil=>intro c f;cases f
 |cons h _ _ g=>
  intro c f a d;rcases zx.1 f with rfl|f
  ·cases h with
   |fact h=>simp[zk] at d;subst d;obtain⟨y,b,e⟩:=tD h;exact⟨y,by simp[b],e⟩
   |rule h _ i=>
    simp only[zk] at d;rcases zx.1 d with rfl|d
    ·obtain⟨y,b,e⟩:=tD h;exact⟨y,by simp[b],e⟩
    ·obtain⟨y,b,e⟩:=JA i a d;exact⟨y,by simp[b],e⟩
  ·obtain⟨y,b,e⟩:=g c f a d;exact⟨y,by simp[b],e⟩
theorem DN:∀{b:List zj} {l:zj},l∈b->l.args.length<=yS b
 |[],_,h=>by cases h
 |a::r,l,h=>by
  rcases zx.1 h with rfl|h
  ·simp[yS]
  ·have:=DN h;simp[yS] at this ⊢;omega
theorem P6{s:ByteArray}{cs:List zd}{t:List zh}(h:xL s=.ok (cs,t)):oi cs t:=by
 unfold xL at h;split at h
 ·cases h
 ·rename_i N;split at h
  ·cases h
  ·rename_i k d;split at h
   ·cases h
   ·rename_i b E;split at h
    ·cases h
    ·rename_i I;split at h
     ·cases h
     ·rename_i o z;split at h
      ·split at h
       ·simp only[Except.ok.injEq,ya] at h;obtain⟨rfl,rfl⟩:=h;have g:xQ k:=fun x F=>(p5 d x F).1;have B:xh s.size s=some (zU k):=by rw[ra,d];rfl
        have D:vj (zU k)=some b:=by
         have:=o8 s;rw[B,d] at this;simp only[Option.bind_some] at this;rw[this];exact E
        have a:=es (by omega) B D;have w:=(oh g b).1 D;have A:=(ww z).2;have v:=wD (o.length+1) o b (sS A);have r:o.length<=1000:=by have:=sM _ _ _ z;have:=a.lits;simp only[dK] at *;omega
        refine⟨a.len,?_,fun c j=>?_,?_⟩
        ·have:=congrArg List.length v;simp[QA] at this;omega
        ·obtain⟨L,P,K,H⟩:=a.ok c j;have n:c.body.length<=6:=by
          false_or_by_contra
          rename_i O;apply I;rw[gM];refine⟨c,j,?_⟩;have J:6<c.body.length:=by omega
          unfold yE;simp[J]
         refine⟨⟨fun l i=>?_,by omega⟩,L,n,K⟩;obtain⟨y,C,e⟩:=Pu w c j l i;have m:=Aj s _ _ _ d y C;have p:=(p5 d y C).2;refine⟨by rw[←e];exact m,by rw[←e];exact p,?_,fun u f=>?_⟩
         ·have:=DN i;omega
         ·obtain⟨M,q,G⟩:=Fd w c j l i u f;exact⟨H l i u f,by rw[←G];exact Aj s _ _ _ d M q⟩
        ·rw[v];exact A.rise
       ·cases h
      ·cases h
theorem B0:∀(ps:List lm) (k:Nat) (a:k<ps.length),(kZ ps)[k*2]?=some (.pointer (some ⟨ps[k].1,0,none⟩))/\(kZ ps)[k*2+1]?=some (.pointer (some ⟨ps[k].2.1,0,none⟩))
 |[],k,a=>by simp at a
 |p::r,0,_=>by simp[kZ]
 |p::r,k+1,a=>by
  have:=B0 r k (by simpa using a);simp only[kZ,us] at this ⊢;rw[show(k+1)*2=k*2+1+1 from by omega,show k*2+1+1+1=k*2+1+1+1 from rfl];simpa using this
end
end Go.Proofs.YteampbddflhngaaGreat
