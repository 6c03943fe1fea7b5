import Derived.Test.YteampbddflhngaaGreatZ09
namespace Go.Proofs.YteampbddflhngaaGreat
set_option linter.all false
section
variable {r r2:List QC}
def mu(x:QC):Prop:=RA x.1=true->nR (bl x.2)/\(x.1=1->yN (RR (bl x.2))=true)
theorem ou(p:UInt8->Bool)(l:List UInt8):l.take (l.takeWhile p).length=l.takeWhile p:=by
 induction l with
 |nil=>rfl
 |cons a l b=>
  rw[n5];split
  ·simp[b]
  ·rfl
theorem sZ{p:UInt8->Bool}:∀{l:List UInt8} {b:UInt8},b∈l.takeWhile p->p b=true
 |[],_,h=>by simp at h
 |a::l,b,h=>by
  rw[n5] at h;split at h
  ·rename_i c;rcases zx.1 h with rfl|h
   ·exact c
   ·exact sZ h
  ·cases h
theorem oM:∀(n:Nat) (l:List UInt8) (ts:List QC),m9 n l=some ts->∀x∈ts,mu x
 |0,_,ts,h,x,f=>by simp[m9] at h;subst h;cases f
 |_+1,[],ts,h,x,f=>by simp[m9] at h;subst h;cases f
 |n+1,a::l,ts,h,x,f=>by
  unfold m9 at h;split at h
  ·exact oM n l ts h x f
  ·split at h
   ·cases h
   ·rename_i y;split at h
    ·cases h
    ·rename_i t;obtain⟨v,w,rfl⟩:=vM.1 h;rcases zx.1 f with rfl|f
     ·intro s;simp only at s ⊢;have u:∀m,bl (⟨((a::l).take m).toArray⟩:ByteArray)=(a::l).take m:=fun m=>by simp[bl]
      rw[u];generalize c:xb (Ry a) (RR l)=k at *;unfold xb at c;by_cases g:yN (Ry a)=true
      ·rw[zc g] at c;subst c;have e:fH (a::l) 1=((a::l).takeWhile fun b=>Rf (Ry b)).length:=rfl;rw[e] at t ⊢;rw[ou];have d:(a::l).takeWhile (fun b=>Rf (Ry b))=a::l.takeWhile (fun b=>Rf (Ry b)):=by rw[n5,zc (by simp[Rf,g])]
       refine⟨⟨by rw[d];simp,by omega,zf ⟨zf (by rw[d];exact g),fun b i=>sZ (p:=fun b=>Rf (Ry b)) i⟩⟩,fun _=>by rw[d];exact g⟩
      ·rw[za g] at c;by_cases j:vR (Ry a)=true
       ·rw[zc j] at c;subst c;have e:fH (a::l) 2=((a::l).takeWhile fun b=>Rf (Ry b)).length:=rfl;rw[e] at t ⊢;rw[ou];have d:(a::l).takeWhile (fun b=>Rf (Ry b))=a::l.takeWhile (fun b=>Rf (Ry b)):=by rw[n5,zc (by simp[Rf,j])]
        exact⟨⟨by rw[d];simp,by omega,zf ⟨zb (by rw[d];exact j),fun b i=>sZ (p:=fun b=>Rf (Ry b)) i⟩⟩,fun q=>by cases q⟩
       ·rw[za j] at c;by_cases o:yH (Ry a)=true
        ·rw[zc o] at c;subst c;have e:fH (a::l) 3=((a::l).takeWhile fun b=>yH (Ry b)).length:=rfl;rw[e] at t ⊢;rw[ou];have d:(a::l).takeWhile (fun b=>yH (Ry b))=a::l.takeWhile (fun b=>yH (Ry b)):=by rw[n5,zc (by simp[o])]
         exact⟨⟨by rw[d];simp,by omega,zb ⟨by rw[d];exact o,fun b i=>sZ (p:=fun b=>yH (Ry b)) i⟩⟩,fun q=>by cases q⟩
        ·exfalso;rw[za o] at c;split at c
         ·subst c;simp[RA] at s
         ·unfold dC at c
          (repeat' split at c)<;>subst c<;>simp[RA] at s
     ·exact oM n _ v w x f
theorem ET:∀(r:List QC) {ts:κ} {r2:List QC},yk r=some (ts,r2)->(∀x∈r,mu x)->(∀y∈ts,nR (bl y))/\∀x∈r2,x∈r
 |[],_,_,h,_=>by simp[yk] at h
 |[x],ts,r2,h,b=>by
  simp only[yk] at h;split at h
  ·rename_i c;simp only[zt,ya] at h;obtain⟨rfl,rfl⟩:=h;exact⟨fun y d=>by simp at d;subst d;exact(b x (by simp) c).1,by simp⟩
  ·cases h
 |x::y::r,ts,r2,h,b=>by
  simp only[yk] at h;split at h
  ·rename_i c;split at h
   ·obtain⟨z,f,e⟩:=vM.1 h;simp only[ya] at e;obtain⟨rfl,rfl⟩:=e;obtain⟨g,i⟩:=ET r (ts:=z.1) (r2:=z.2) f (fun u a=>b u (by simp[a]));refine⟨fun u a=>?_,fun u a=>by simp[i u a]⟩;rcases zx.1 a with rfl|a
    ·exact(b x (by simp) c).1
    ·exact g u a
   ·simp only[zt,ya] at h;obtain⟨rfl,rfl⟩:=h;exact⟨fun u a=>by simp at a;subst a;exact(b x (by simp) c).1,fun u a=>by simp[List.mem_cons.1 a]⟩
  ·cases h
theorem fD{x:QC}(h:x∈r.tail):x∈r:=by
 cases r with
 |nil=>exact h
 |cons a r=>simp at h;simp[h]
theorem oq{l:zj}(h:yZ r=some (l,r2))(i:∀x∈r,mu x):l.neg=false/\mw l/\∀x∈r2,x∈r:=by
 unfold yZ at h;split at h
 ·rename_i g;cases r with
  |nil=>simp[QT] at g
  |cons a r=>
   have k:a.1=1:=g;have j:=i a (by simp) (by rw[k];rfl);have m:nR (bl a.2)/\yN (RR (bl a.2))=true:=⟨j.1,j.2 k⟩;change (if QT r=4 then(match yk r.tail with|none=>none|some (d,r2)=>if QT r2=5 then some ((⟨false,a.2,d⟩:zj),r2.tail) else none) else some ((⟨false,a.2,[]⟩:zj),r))=some (l,r2) at h;by_cases f:QT r=4
   ·rw[zc f] at h;cases c:yk r.tail with
    |none=>rw[c] at h;cases h
    |some z=>
     obtain⟨d,q⟩:=z;rw[c] at h;simp only at h;by_cases e:QT q=5
     ·rw[zc e] at h;simp only[zt,ya] at h;obtain⟨rfl,rfl⟩:=h;obtain⟨p,n⟩:=ET _ c (fun u b=>i u (by simp[fD b]));exact⟨rfl,⟨m,p⟩,fun u b=>by simp[fD (n u (fD b))]⟩
     ·rw[za e] at h;cases h
   ·rw[za f] at h;simp only[zt,ya] at h;obtain⟨rfl,rfl⟩:=h;exact⟨rfl,⟨m,fun y o=>by cases o⟩,fun u b=>by simp[b]⟩
 ·cases h
theorem Hx{l:zj}(h:uD r=some (l,r2))(b:∀x∈r,mu x):mw l/\∀x∈r2,x∈r:=by
 unfold uD at h;split at h
 ·obtain⟨z,d,c⟩:=vM.1 h;simp only[ya] at c;obtain⟨rfl,rfl⟩:=c;obtain⟨_,f,e⟩:=oq (l:=z.1) (r2:=z.2) d (fun u a=>b u (fD a));exact⟨f,fun u a=>fD (e u a)⟩
 ·exact(oq h b).2
theorem F2:∀(n:Nat) {r:List QC} {b:List zj} {r2:List QC},xK n r=some (b,r2)->(∀x∈r,mu x)->(∀l∈b,mw l)/\∀x∈r2,x∈r
 |0,_,_,_,h,_=>by cases h
 |n+1,r,b,r2,h,f=>by
  unfold xK at h;split at h
  ·cases h
  ·rename_i a p k;obtain⟨g,e⟩:=Hx k f;split at h
   ·obtain⟨z,j,i⟩:=vM.1 h;simp only[ya] at i;obtain⟨rfl,rfl⟩:=i;obtain⟨o,m⟩:=F2 n (b:=z.1) (r2:=z.2) j (fun u d=>f u (e u (fD d)));refine⟨fun l c=>?_,fun u d=>e u (fD (m u d))⟩;rcases zx.1 c with rfl|c
    ·exact g
    ·exact o l c
   ·simp only[zt,ya] at h;obtain⟨rfl,rfl⟩:=h;exact⟨fun l c=>by simp at c;subst c;exact g,e⟩
theorem MC{n:Nat}{c:zd}(h:vo n r=some (c,r2))(g:∀x∈r,mu x):n7 c/\∀x∈r2,x∈r:=by
 unfold vo at h;split at h
 ·cases h
 ·rename_i a s j;obtain⟨f,i,e⟩:=oq j g;split at h
  ·split at h
   ·cases h
   ·rename_i b q m;split at h
    ·simp only[zt,ya] at h;obtain⟨rfl,rfl⟩:=h;obtain⟨p,o⟩:=F2 n m (fun u d=>g u (e u (fD d)));exact⟨⟨f,i,p⟩,fun u d=>e u (fD (o u (fD d)))⟩
    ·cases h
  ·split at h
   ·simp only[zt,ya] at h;obtain⟨rfl,rfl⟩:=h;exact⟨⟨f,i,fun l k=>by cases k⟩,fun u d=>e u (fD d)⟩
   ·cases h
theorem B6{n:Nat}:∀(m:Nat) {r:List QC} {cs:List zd},yI n m r=some cs->(∀x∈r,mu x)->∀c∈cs,n7 c
 |m,[],cs,h,_=>by cases m<;>(simp[yI] at h;subst h;simp)
 |0,_::_,cs,h,_=>by simp[yI] at h
 |m+1,x::r,cs,h,b=>by
  unfold yI at h;split at h
  ·cases h
  ·rename_i c r2 e;obtain⟨i,g⟩:=MC e b;obtain⟨j,d,rfl⟩:=vM.1 h;intro z a;rcases zx.1 a with rfl|a
   ·exact i
   ·exact B6 m d (fun u f=>b u (g u f)) z a
theorem Mr{s:ByteArray}{l:List QC}(h:QI s=some l):∀x∈l,mu x:=by
 unfold QI at h;rw[JT] at h;exact oM _ _ _ h
end
end Go.Proofs.YteampbddflhngaaGreat
