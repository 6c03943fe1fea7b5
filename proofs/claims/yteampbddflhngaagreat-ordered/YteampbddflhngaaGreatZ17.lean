import Derived.Test.YteampbddflhngaaGreatZ09
namespace Go.Proofs.YteampbddflhngaaGreat
set_option linter.all false
section
variable {r r2:List QA}
def mI(x:QA):Prop:=R8 x.1=true->nh (bl x.2)/\(x.1=1->yR (RU (bl x.2))=true)
theorem oX(p:UInt8->Bool)(l:List UInt8):l.take (l.takeWhile p).length=l.takeWhile p:=by
 induction l with
 |nil=>rfl
 |cons a l b=>
  rw[nM];split
  ·simp[b]
  ·rfl
theorem wK{p:UInt8->Bool}:∀{l:List UInt8} {b:UInt8},b∈l.takeWhile p->p b=true
 |[],_,h=>by simp at h
 |a::l,b,h=>by
  rw[nM] at h;split at h
  ·rename_i c;rcases zx.1 h with rfl|h
   ·exact c
   ·exact wK h
  ·cases h
theorem e9:∀(n:Nat) (l:List UInt8) (ts:List QA),mX n l=some ts->∀x∈ts,mI x
 |0,_,ts,h,x,f=>by simp[mX] at h;subst h;cases f
 |_+1,[],ts,h,x,f=>by simp[mX] at h;subst h;cases f
 |n+1,a::l,ts,h,x,f=>by
  unfold mX at h;split at h
  ·exact e9 n l ts h x f
  ·split at h
   ·cases h
   ·rename_i y;split at h
    ·cases h
    ·rename_i s;obtain⟨v,w,rfl⟩:=vN.1 h;rcases zx.1 f with rfl|f
     ·intro t;simp only at t ⊢;have u:∀m,bl (⟨((a::l).take m).toArray⟩:ByteArray)=(a::l).take m:=fun m=>by simp[bl]
      rw[u];generalize c:xa (Rw a) (RU l)=k at *;unfold xa at c;by_cases i:yR (Rw a)=true
      ·rw[zc i] at c;subst c;have e:hZ (a::l) 1=((a::l).takeWhile fun b=>Rc (Rw b)).length:=rfl;rw[e] at s ⊢;rw[oX];have d:(a::l).takeWhile (fun b=>Rc (Rw b))=a::l.takeWhile (fun b=>Rc (Rw b)):=by rw[nM,zc (by simp[Rc,i])]
       refine⟨⟨by rw[d];simp,by omega,zf ⟨zf (by rw[d];exact i),fun b g=>wK (p:=fun b=>Rc (Rw b)) g⟩⟩,fun _=>by rw[d];exact i⟩
      ·rw[za i] at c;by_cases j:vO (Rw a)=true
       ·rw[zc j] at c;subst c;have e:hZ (a::l) 2=((a::l).takeWhile fun b=>Rc (Rw b)).length:=rfl;rw[e] at s ⊢;rw[oX];have d:(a::l).takeWhile (fun b=>Rc (Rw b))=a::l.takeWhile (fun b=>Rc (Rw b)):=by rw[nM,zc (by simp[Rc,j])]
        exact⟨⟨by rw[d];simp,by omega,zf ⟨zb (by rw[d];exact j),fun b g=>wK (p:=fun b=>Rc (Rw b)) g⟩⟩,fun q=>by cases q⟩
       ·rw[za j] at c;by_cases o:yH (Rw a)=true
        ·rw[zc o] at c;subst c;have e:hZ (a::l) 3=((a::l).takeWhile fun b=>yH (Rw b)).length:=rfl;rw[e] at s ⊢;rw[oX];have d:(a::l).takeWhile (fun b=>yH (Rw b))=a::l.takeWhile (fun b=>yH (Rw b)):=by rw[nM,zc (by simp[o])]
         exact⟨⟨by rw[d];simp,by omega,zb ⟨by rw[d];exact o,fun b g=>wK (p:=fun b=>yH (Rw b)) g⟩⟩,fun q=>by cases q⟩
        ·exfalso;rw[za o] at c;split at c
         ·subst c;simp[R8] at t
         ·unfold gQ at c
          (repeat' split at c)<;>subst c<;>simp[R8] at t
     ·exact e9 n _ v w x f
theorem F5:∀(r:List QA) {ts:κ} {r2:List QA},yk r=some (ts,r2)->(∀x∈r,mI x)->(∀y∈ts,nh (bl y))/\∀x∈r2,x∈r
 |[],_,_,h,_=>by simp[yk] at h
 |[x],ts,r2,h,b=>by
  simp only[yk] at h;split at h
  ·rename_i c;simp only[zt,ya] at h;obtain⟨rfl,rfl⟩:=h;exact⟨fun y d=>by simp at d;subst d;exact(b x (by simp) c).1,by simp⟩
  ·cases h
 |x::y::r,ts,r2,h,b=>by
  simp only[yk] at h;split at h
  ·rename_i c;split at h
   ·obtain⟨z,f,e⟩:=vN.1 h;simp only[ya] at e;obtain⟨rfl,rfl⟩:=e;obtain⟨g,i⟩:=F5 r (ts:=z.1) (r2:=z.2) f (fun u a=>b u (by simp[a]));refine⟨fun u a=>?_,fun u a=>by simp[i u a]⟩;rcases zx.1 a with rfl|a
    ·exact(b x (by simp) c).1
    ·exact g u a
   ·simp only[zt,ya] at h;obtain⟨rfl,rfl⟩:=h;exact⟨fun u a=>by simp at a;subst a;exact(b x (by simp) c).1,fun u a=>by simp[List.mem_cons.1 a]⟩
  ·cases h
theorem fy{x:QA}(h:x∈r.tail):x∈r:=by
 cases r with
 |nil=>exact h
 |cons a r=>simp at h;simp[h]
theorem eV{l:zj}(h:yZ r=some (l,r2))(j:∀x∈r,mI x):l.neg=false/\mP l/\∀x∈r2,x∈r:=by
 unfold yZ at h;split at h
 ·rename_i g;cases r with
  |nil=>simp[QR] at g
  |cons a r=>
   have i:a.1=1:=g;have f:=j a (by simp) (by rw[i];rfl);have e:nh (bl a.2)/\yR (RU (bl a.2))=true:=⟨f.1,f.2 i⟩;change (if QR r=4 then(match yk r.tail with|none=>none|some (d,r2)=>if QR r2=5 then some ((⟨false,a.2,d⟩:zj),r2.tail) else none) else some ((⟨false,a.2,[]⟩:zj),r))=some (l,r2) at h;by_cases m:QR r=4
   ·rw[zc m] at h;cases c:yk r.tail with
    |none=>rw[c] at h;cases h
    |some z=>
     obtain⟨d,p⟩:=z;rw[c] at h;simp only at h;by_cases k:QR p=5
     ·rw[zc k] at h;simp only[zt,ya] at h;obtain⟨rfl,rfl⟩:=h;obtain⟨o,q⟩:=F5 _ c (fun u b=>j u (by simp[fy b]));exact⟨rfl,⟨e,o⟩,fun u b=>by simp[fy (q u (fy b))]⟩
     ·rw[za k] at h;cases h
   ·rw[za m] at h;simp only[zt,ya] at h;obtain⟨rfl,rfl⟩:=h;exact⟨rfl,⟨e,fun y n=>by cases n⟩,fun u b=>by simp[b]⟩
 ·cases h
theorem Gf{l:zj}(h:uC r=some (l,r2))(c:∀x∈r,mI x):mP l/\∀x∈r2,x∈r:=by
 unfold uC at h;split at h
 ·obtain⟨z,e,b⟩:=vN.1 h;simp only[ya] at b;obtain⟨rfl,rfl⟩:=b;obtain⟨_,f,d⟩:=eV (l:=z.1) (r2:=z.2) e (fun u a=>c u (fy a));exact⟨f,fun u a=>fy (d u a)⟩
 ·exact(eV h c).2
theorem CO:∀(n:Nat) {r:List QA} {b:List zj} {r2:List QA},xJ n r=some (b,r2)->(∀x∈r,mI x)->(∀l∈b,mP l)/\∀x∈r2,x∈r
 |0,_,_,_,h,_=>by cases h
 |n+1,r,b,r2,h,i=>by
  unfold xJ at h;split at h
  ·cases h
  ·rename_i a p j;obtain⟨g,e⟩:=Gf j i;split at h
   ·obtain⟨z,o,f⟩:=vN.1 h;simp only[ya] at f;obtain⟨rfl,rfl⟩:=f;obtain⟨k,m⟩:=CO n (b:=z.1) (r2:=z.2) o (fun u d=>i u (e u (fy d)));refine⟨fun l c=>?_,fun u d=>e u (fy (m u d))⟩;rcases zx.1 c with rfl|c
    ·exact g
    ·exact k l c
   ·simp only[zt,ya] at h;obtain⟨rfl,rfl⟩:=h;exact⟨fun l c=>by simp at c;subst c;exact g,e⟩
theorem Pe{n:Nat}{c:zd}(h:vh n r=some (c,r2))(g:∀x∈r,mI x):nO c/\∀x∈r2,x∈r:=by
 unfold vh at h;split at h
 ·cases h
 ·rename_i a q k;obtain⟨i,f,e⟩:=eV k g;split at h
  ·split at h
   ·cases h
   ·rename_i b s j;split at h
    ·simp only[zt,ya] at h;obtain⟨rfl,rfl⟩:=h;obtain⟨o,p⟩:=CO n j (fun u d=>g u (e u (fy d)));exact⟨⟨i,f,o⟩,fun u d=>e u (fy (p u (fy d)))⟩
    ·cases h
  ·split at h
   ·simp only[zt,ya] at h;obtain⟨rfl,rfl⟩:=h;exact⟨⟨i,f,fun l m=>by cases m⟩,fun u d=>e u (fy d)⟩
   ·cases h
theorem F4{n:Nat}:∀(m:Nat) {r:List QA} {cs:List zd},yI n m r=some cs->(∀x∈r,mI x)->∀c∈cs,nO c
 |m,[],cs,h,_=>by cases m<;>(simp[yI] at h;subst h;simp)
 |0,_::_,cs,h,_=>by simp[yI] at h
 |m+1,x::r,cs,h,b=>by
  unfold yI at h;split at h
  ·cases h
  ·rename_i c r2 d;obtain⟨e,i⟩:=Pe d b;obtain⟨j,f,rfl⟩:=vN.1 h;intro z a;rcases zx.1 a with rfl|a
   ·exact e
   ·exact F4 m f (fun u g=>b u (i u g)) z a
theorem Jq{s:ByteArray}{l:List QA}(h:QG s=some l):∀x∈l,mI x:=by
 unfold QG at h;rw[NI] at h;exact e9 _ _ _ h
end
end Go.Proofs.YteampbddflhngaaGreat
