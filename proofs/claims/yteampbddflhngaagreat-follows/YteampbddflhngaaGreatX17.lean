import Derived.Test.YteampbddflhngaaGreatX09
namespace Go.Proofs.YteampbddflhngaaGreat
set_option linter.all false
section
variable {r r2:List P4}
def lI(x:P4):Prop:=Qw x.1=true->m5 (bl x.2)/\(x.1=1->yL (QF (bl x.2))=true)
theorem wG(p:UInt8->Bool)(l:List UInt8):l.take (l.takeWhile p).length=l.takeWhile p:=by
 induction l with
 |nil=>rfl
 |cons a l b=>
  rw[mQ];split
  ·simp[b]
  ·rfl
theorem rH{p:UInt8->Bool}:∀{l:List UInt8} {b:UInt8},b∈l.takeWhile p->p b=true
 |[],_,h=>by simp at h
 |a::l,b,h=>by
  rw[mQ] at h;split at h
  ·rename_i c;rcases zu.1 h with rfl|h
   ·exact c
   ·exact rH h
  ·cases h
theorem ip:∀(n:Nat) (l:List UInt8) (ts:List P4),mt n l=some ts->∀x∈ts,lI x
 |0,_,ts,h,x,f=>by simp[mt] at h;subst h;cases f
 |_+1,[],ts,h,x,f=>by simp[mt] at h;subst h;cases f
 |n+1,a::l,ts,h,x,f=>by
  unfold mt at h;split at h
  ·exact ip n l ts h x f
  ·split at h
   ·cases h
   ·rename_i y;split at h
    ·cases h
    ·rename_i s;obtain⟨w,v,rfl⟩:=vE.1 h;rcases zu.1 f with rfl|f
     ·intro t;simp only at t ⊢;have u:∀m,bl (⟨((a::l).take m).toArray⟩:ByteArray)=(a::l).take m:=fun m=>by simp[bl]
      rw[u];generalize c:yX (Qo a) (QF l)=k at *;unfold yX at c;by_cases g:yL (Qo a)=true
      ·rw[zb g] at c;subst c;have e:fJ (a::l) 1=((a::l).takeWhile fun b=>PW (Qo b)).length:=rfl;rw[e] at s ⊢;rw[wG];have d:(a::l).takeWhile (fun b=>PW (Qo b))=a::l.takeWhile (fun b=>PW (Qo b)):=by rw[mQ,zb (by simp[PW,g])]
       refine⟨⟨by rw[d];simp,by omega,zg ⟨zg (by rw[d];exact g),fun b i=>rH (p:=fun b=>PW (Qo b)) i⟩⟩,fun _=>by rw[d];exact g⟩
      ·rw[za g] at c;by_cases o:vu (Qo a)=true
       ·rw[zb o] at c;subst c;have e:fJ (a::l) 2=((a::l).takeWhile fun b=>PW (Qo b)).length:=rfl;rw[e] at s ⊢;rw[wG];have d:(a::l).takeWhile (fun b=>PW (Qo b))=a::l.takeWhile (fun b=>PW (Qo b)):=by rw[mQ,zb (by simp[PW,o])]
        exact⟨⟨by rw[d];simp,by omega,zg ⟨ze (by rw[d];exact o),fun b i=>rH (p:=fun b=>PW (Qo b)) i⟩⟩,fun q=>by cases q⟩
       ·rw[za o] at c;by_cases j:yG (Qo a)=true
        ·rw[zb j] at c;subst c;have e:fJ (a::l) 3=((a::l).takeWhile fun b=>yG (Qo b)).length:=rfl;rw[e] at s ⊢;rw[wG];have d:(a::l).takeWhile (fun b=>yG (Qo b))=a::l.takeWhile (fun b=>yG (Qo b)):=by rw[mQ,zb (by simp[j])]
         exact⟨⟨by rw[d];simp,by omega,ze ⟨by rw[d];exact j,fun b i=>rH (p:=fun b=>yG (Qo b)) i⟩⟩,fun q=>by cases q⟩
        ·exfalso;rw[za j] at c;split at c
         ·subst c;simp[Qw] at t
         ·unfold gM at c
          (repeat' split at c)<;>subst c<;>simp[Qw] at t
     ·exact ip n _ w v x f
theorem Bc:∀(r:List P4) {ts:List ByteArray} {r2:List P4},yi r=some (ts,r2)->(∀x∈r,lI x)->(∀y∈ts,m5 (bl y))/\∀x∈r2,x∈r
 |[],_,_,h,_=>by simp[yi] at h
 |[x],ts,r2,h,b=>by
  simp only[yi] at h;split at h
  ·rename_i c;simp only[zr,yc] at h;obtain⟨rfl,rfl⟩:=h;exact⟨fun y d=>by simp at d;subst d;exact(b x (by simp) c).1,by simp⟩
  ·cases h
 |x::y::r,ts,r2,h,b=>by
  simp only[yi] at h;split at h
  ·rename_i c;split at h
   ·obtain⟨z,i,e⟩:=vE.1 h;simp only[yc] at e;obtain⟨rfl,rfl⟩:=e;obtain⟨f,g⟩:=Bc r (ts:=z.1) (r2:=z.2) i (fun u a=>b u (by simp[a]));refine⟨fun u a=>?_,fun u a=>by simp[g u a]⟩;rcases zu.1 a with rfl|a
    ·exact(b x (by simp) c).1
    ·exact f u a
   ·simp only[zr,yc] at h;obtain⟨rfl,rfl⟩:=h;exact⟨fun u a=>by simp at a;subst a;exact(b x (by simp) c).1,fun u a=>by simp[List.mem_cons.1 a]⟩
  ·cases h
theorem dW{x:P4}(h:x∈r.tail):x∈r:=by
 cases r with
 |nil=>exact h
 |cons a r=>simp at h;simp[h]
theorem ec{l:zj}(h:yY r=some (l,r2))(k:∀x∈r,lI x):l.neg=false/\m4 l/\∀x∈r2,x∈r:=by
 unfold yY at h;split at h
 ·rename_i g;cases r with
  |nil=>simp[PM] at g
  |cons a r=>
   have i:a.1=1:=g;have f:=k a (by simp) (by rw[i];rfl);have m:m5 (bl a.2)/\yL (QF (bl a.2))=true:=⟨f.1,f.2 i⟩;change (if PM r=4 then(match yi r.tail with|none=>none|some (e,r2)=>if PM r2=5 then some ((⟨false,a.2,e⟩:zj),r2.tail) else none) else some ((⟨false,a.2,[]⟩:zj),r))=some (l,r2) at h;by_cases d:PM r=4
   ·rw[zb d] at h;cases c:yi r.tail with
    |none=>rw[c] at h;cases h
    |some z=>
     obtain⟨e,q⟩:=z;rw[c] at h;simp only at h;by_cases j:PM q=5
     ·rw[zb j] at h;simp only[zr,yc] at h;obtain⟨rfl,rfl⟩:=h;obtain⟨o,p⟩:=Bc _ c (fun u b=>k u (by simp[dW b]));exact⟨rfl,⟨m,o⟩,fun u b=>by simp[dW (p u (dW b))]⟩
     ·rw[za j] at h;cases h
   ·rw[za d] at h;simp only[zr,yc] at h;obtain⟨rfl,rfl⟩:=h;exact⟨rfl,⟨m,fun y n=>by cases n⟩,fun u b=>by simp[b]⟩
 ·cases h
theorem LA{l:zj}(h:us r=some (l,r2))(c:∀x∈r,lI x):m4 l/\∀x∈r2,x∈r:=by
 unfold us at h;split at h
 ·obtain⟨z,f,b⟩:=vE.1 h;simp only[yc] at b;obtain⟨rfl,rfl⟩:=b;obtain⟨_,e,d⟩:=ec (l:=z.1) (r2:=z.2) f (fun u a=>c u (dW a));exact⟨e,fun u a=>dW (d u a)⟩
 ·exact(ec h c).2
theorem EB:∀(n:Nat) {r:List P4} {b:List zj} {r2:List P4},xE n r=some (b,r2)->(∀x∈r,lI x)->(∀l∈b,m4 l)/\∀x∈r2,x∈r
 |0,_,_,_,h,_=>by cases h
 |n+1,r,b,r2,h,i=>by
  unfold xE at h;split at h
  ·cases h
  ·rename_i a p m;obtain⟨f,d⟩:=LA m i;split at h
   ·obtain⟨z,o,g⟩:=vE.1 h;simp only[yc] at g;obtain⟨rfl,rfl⟩:=g;obtain⟨k,j⟩:=EB n (b:=z.1) (r2:=z.2) o (fun u e=>i u (d u (dW e)));refine⟨fun l c=>?_,fun u e=>d u (dW (j u e))⟩;rcases zu.1 c with rfl|c
    ·exact f
    ·exact k l c
   ·simp only[zr,yc] at h;obtain⟨rfl,rfl⟩:=h;exact⟨fun l c=>by simp at c;subst c;exact f,d⟩
theorem Ll{n:Nat}{c:zc}(h:vc n r=some (c,r2))(i:∀x∈r,lI x):m9 c/\∀x∈r2,x∈r:=by
 unfold vc at h;split at h
 ·cases h
 ·rename_i a s p;obtain⟨g,f,e⟩:=ec p i;split at h
  ·split at h
   ·cases h
   ·rename_i b q m;split at h
    ·simp only[zr,yc] at h;obtain⟨rfl,rfl⟩:=h;obtain⟨k,j⟩:=EB n m (fun u d=>i u (e u (dW d)));exact⟨⟨g,f,k⟩,fun u d=>e u (dW (j u (dW d)))⟩
    ·cases h
  ·split at h
   ·simp only[zr,yc] at h;obtain⟨rfl,rfl⟩:=h;exact⟨⟨g,f,fun l o=>by cases o⟩,fun u d=>e u (dW d)⟩
   ·cases h
theorem Ew{n:Nat}:∀(m:Nat) {r:List P4} {cs:List zc},yF n m r=some cs->(∀x∈r,lI x)->∀c∈cs,m9 c
 |m,[],cs,h,_=>by cases m<;>(simp[yF] at h;subst h;simp)
 |0,_::_,cs,h,_=>by simp[yF] at h
 |m+1,x::r,cs,h,b=>by
  unfold yF at h;split at h
  ·cases h
  ·rename_i c r2 g;obtain⟨d,e⟩:=Ll g b;obtain⟨j,i,rfl⟩:=vE.1 h;intro z a;rcases zu.1 a with rfl|a
   ·exact d
   ·exact Ew m i (fun u f=>b u (e u f)) z a
theorem L1{s:ByteArray}{l:List P4}(h:PA s=some l):∀x∈l,lI x:=by
 unfold PA at h;rw[Kj] at h;exact ip _ _ _ h
end
end Go.Proofs.YteampbddflhngaaGreat
