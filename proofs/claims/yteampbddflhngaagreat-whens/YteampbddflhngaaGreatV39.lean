import Derived.Test.YteampbddflhngaaGreatV36
namespace Go.Proofs.YteampbddflhngaaGreat
set_option linter.all false
open Go.RowKit
section
variable {lo:Nat}
theorem CI(s:ByteArray):∀(n i:Nat) (l:List Pd),Pn n s i=some l->∀x∈l,x.2.size<=6:=by
 intro n;induction n with
 |zero=>intro i l h;simp[Pn] at h;subst h;simp
 |succ n f=>
  intro i l h;by_cases a:i<s.size
  ·cases c:vT (Pi s i) with
   |true=>rw[sX a c] at h;exact f _ _ h
   |false=>
    generalize e:xa (Pi s i) (Pi s (i+1))=k;by_cases b:k=0
    ·subst b;rw[tD a c e] at h;exact zC h (by simp)
    ·by_cases g:6<yi s i k-i
     ·rw[td a c e g] at h;exact zC h (by simp)
     ·rw[tF a c e b g] at h;obtain⟨r,j,rfl⟩:=vr.1 h;intro x d;rcases zw.1 d with rfl|d
      ·rw[ByteArray.size_extract];omega
      ·exact f _ _ j x d
  ·rw[nN a] at h;simp at h;subst h;simp
theorem tj{a:zj}{l:List Pd}(h:qq a l):∃y∈l,y.2=a.pred:=by
 cases h with
 |bare=>exact⟨_,rq,rfl⟩
 |args=>exact⟨_,rq,rfl⟩
theorem Ei{a:zj}{l:List Pd}(h:kT a l):∃y∈l,y.2=a.pred:=by
 cases h with
 |qc h=>exact tj h
 |neg _ h=>obtain⟨y,b,e⟩:=tj h;exact⟨y,by simp[b],e⟩
theorem MG:∀{b:List zj} {l:List Pd},gu b l->∀a∈b,∃y∈l,y.2=a.pred:=by
 intro b l h;induction h with
 |one h=>intro a c;simp at c;subst c;exact Ei h
 |more h _ _ f=>
  intro a c;rcases zw.1 c with rfl|c
  ·obtain⟨y,d,e⟩:=Ei h;exact⟨y,by simp[d],e⟩
  ·obtain⟨y,d,e⟩:=f a c;exact⟨y,by simp[d],e⟩
theorem NE:∀{cs:List zc} {l:List Pd},dK cs l->∀c∈cs,∀a∈zm c,∃y∈l,y.2=a.pred:=by
 intro cs l h;induction h with
 |nil=>intro c f;cases f
 |cons h _ _ i=>
  intro c f a d;rcases zw.1 f with rfl|f
  ·cases h with
   |fact h=>simp[zm] at d;subst d;obtain⟨y,b,e⟩:=tj h;exact⟨y,by simp[b],e⟩
   |rule h _ g=>
    simp only[zm] at d;rcases zw.1 d with rfl|d
    ·obtain⟨y,b,e⟩:=tj h;exact⟨y,by simp[b],e⟩
    ·obtain⟨y,b,e⟩:=MG g a d;exact⟨y,by simp[b],e⟩
  ·obtain⟨y,b,e⟩:=i c f a d;exact⟨y,by simp[b],e⟩
theorem C3:∀{b:List zj} {l:zj},l∈b->l.args.length<=xi b
 |[],_,h=>by cases h
 |a::r,l,h=>by
  rcases zw.1 h with rfl|h
  ·simp[xi]
  ·have:=C3 h;simp[xi] at this ⊢;omega
theorem EX{s:ByteArray}{cs:List zc}{t:List zg}(h:uu s=.ok (cs,t)):wl cs t:=by
 unfold uu at h;split at h
 ·cases h
 ·rename_i N;split at h
  ·cases h
  ·rename_i o d;split at h
   ·cases h
   ·rename_i b I;split at h
    ·cases h
    ·rename_i H;split at h
     ·cases h
     ·rename_i p D;split at h
      ·split at h
       ·simp only[Except.ok.injEq,yo] at h;obtain⟨rfl,rfl⟩:=h;have g:xV o:=fun x E=>(pj d x E).1;have w:xh s.size s=some (zQ o):=by rw[pQ,d];rfl
        have B:uQ (zQ o)=some b:=by
         have:=ey s;rw[w,d] at this;simp only[Option.bind_some] at this;rw[this];exact I
        have a:=o4 (by omega) w B;have z:=(iV g b).1 B;have C:=(tq D).2;have r:=tn (p.length+1) p b (sJ C);have v:p.length<=1000:=by have:=rA _ _ _ D;have:=a.lits;simp only[jH] at *;omega
        refine⟨a.len,?_,fun c i=>?_,?_⟩
        ·have:=congrArg List.length r;simp[Pb] at this;omega
        ·obtain⟨G,O,J,F⟩:=a.ok c i;have m:c.body.length<=6:=by
          false_or_by_contra
          rename_i P;apply H;rw[kY];refine⟨c,i,?_⟩;have K:6<c.body.length:=by omega
          unfold yG;simp[K]
         refine⟨⟨fun l j=>?_,by omega⟩,G,m,J⟩;obtain⟨y,u,e⟩:=NE z c i l j;have k:=CI s _ _ _ d y u;have q:=(pj d y u).2;refine⟨by rw[←e];exact k,by rw[←e];exact q,?_,fun A f=>?_⟩
         ·have:=C3 j;omega
         ·obtain⟨L,n,M⟩:=Di z c i l j A f;exact⟨F l j A f,by rw[←M];exact CI s _ _ _ d L n⟩
        ·rw[r];exact C.rise
       ·cases h
      ·cases h
theorem CD:∀(ps:List vc) (k:Nat) (a:k<ps.length),(fI ps)[k*2]?=some (.pointer (some ⟨ps[k].1,0,none⟩))/\(fI ps)[k*2+1]?=some (.pointer (some ⟨ps[k].2.1,0,none⟩))
 |[],k,a=>by simp at a
 |p::r,0,_=>by simp[fI]
 |p::r,k+1,a=>by
  have:=CD r k (by simpa using a);simp only[fI,us] at this ⊢;rw[show(k+1)*2=k*2+1+1 from by omega,show k*2+1+1+1=k*2+1+1+1 from rfl];simpa using this
end
end Go.Proofs.YteampbddflhngaaGreat
