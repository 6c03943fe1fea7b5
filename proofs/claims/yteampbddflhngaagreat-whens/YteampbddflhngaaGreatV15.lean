import Derived.Test.YteampbddflhngaaGreatV07
import Derived.Test.YteampbddflhngaaGreatV09
namespace Go.Proofs.YteampbddflhngaaGreat
def bl(x:ByteArray):List UInt8:=x.data.toList
def Rg:NL:=⟨⟨#[40]⟩,⟨#[41]⟩,⟨#[44]⟩,⟨#[46]⟩,⟨#[33]⟩,⟨#[58,45]⟩⟩
def lQ(l:zj):Prop:=(nm (bl l.pred)/\yQ (Qt (bl l.pred))=true)/\∀x∈l.args,nm (bl x)
def mZ(c:zc):Prop:=c.head.neg=false/\lQ c.head/\∀l∈c.body,lQ l
section
variable {r r2:List Pd}
def lO(x:Pd):Prop:=PY x.1=true->nm (bl x.2)/\(x.1=1->yQ (Qt (bl x.2))=true)
theorem iO(p:UInt8->Bool)(l:List UInt8):l.take (l.takeWhile p).length=l.takeWhile p:=by
 induction l with
 |nil=>rfl
 |cons a l b=>
  rw[my];split
  ·simp[b]
  ·rfl
theorem rT{p:UInt8->Bool}:∀{l:List UInt8} {b:UInt8},b∈l.takeWhile p->p b=true
 |[],_,h=>by simp at h
 |a::l,b,h=>by
  rw[my] at h;split at h
  ·rename_i c;rcases zw.1 h with rfl|h
   ·exact c
   ·exact rT h
  ·cases h
theorem oz:∀(n:Nat) (l:List UInt8) (ts:List Pd),me n l=some ts->∀x∈ts,lO x
 |0,_,ts,h,x,f=>by simp[me] at h;subst h;cases f
 |_+1,[],ts,h,x,f=>by simp[me] at h;subst h;cases f
 |n+1,a::l,ts,h,x,f=>by
  unfold me at h;split at h
  ·exact oz n l ts h x f
  ·split at h
   ·cases h
   ·rename_i y;split at h
    ·cases h
    ·rename_i s;obtain⟨w,v,rfl⟩:=vr.1 h;rcases zw.1 f with rfl|f
     ·intro t;simp only at t ⊢;have u:∀m,bl (⟨((a::l).take m).toArray⟩:ByteArray)=(a::l).take m:=fun m=>by simp[bl]
      rw[u];generalize c:xa (PR a) (Qt l)=k at *;unfold xa at c;by_cases i:yQ (PR a)=true
      ·rw[zb i] at c;subst c;have e:fF (a::l) 1=((a::l).takeWhile fun b=>P9 (PR b)).length:=rfl;rw[e] at s ⊢;rw[iO];have d:(a::l).takeWhile (fun b=>P9 (PR b))=a::l.takeWhile (fun b=>P9 (PR b)):=by rw[my,zb (by simp[P9,i])]
       refine⟨⟨by rw[d];simp,by omega,zf ⟨zf (by rw[d];exact i),fun b g=>rT (p:=fun b=>P9 (PR b)) g⟩⟩,fun _=>by rw[d];exact i⟩
      ·rw[za i] at c;by_cases o:vE (PR a)=true
       ·rw[zb o] at c;subst c;have e:fF (a::l) 2=((a::l).takeWhile fun b=>P9 (PR b)).length:=rfl;rw[e] at s ⊢;rw[iO];have d:(a::l).takeWhile (fun b=>P9 (PR b))=a::l.takeWhile (fun b=>P9 (PR b)):=by rw[my,zb (by simp[P9,o])]
        exact⟨⟨by rw[d];simp,by omega,zf ⟨ze (by rw[d];exact o),fun b g=>rT (p:=fun b=>P9 (PR b)) g⟩⟩,fun q=>by cases q⟩
       ·rw[za o] at c;by_cases j:yJ (PR a)=true
        ·rw[zb j] at c;subst c;have e:fF (a::l) 3=((a::l).takeWhile fun b=>yJ (PR b)).length:=rfl;rw[e] at s ⊢;rw[iO];have d:(a::l).takeWhile (fun b=>yJ (PR b))=a::l.takeWhile (fun b=>yJ (PR b)):=by rw[my,zb (by simp[j])]
         exact⟨⟨by rw[d];simp,by omega,ze ⟨by rw[d];exact j,fun b g=>rT (p:=fun b=>yJ (PR b)) g⟩⟩,fun q=>by cases q⟩
        ·exfalso;rw[za j] at c;split at c
         ·subst c;simp[PY] at t
         ·unfold gL at c
          (repeat' split at c)<;>subst c<;>simp[PY] at t
     ·exact oz n _ w v x f
theorem Bl:∀(r:List Pd) {ts:List ByteArray} {r2:List Pd},yd r=some (ts,r2)->(∀x∈r,lO x)->(∀y∈ts,nm (bl y))/\∀x∈r2,x∈r
 |[],_,_,h,_=>by simp[yd] at h
 |[x],ts,r2,h,b=>by
  simp only[yd] at h;split at h
  ·rename_i c;simp only[zs,yo] at h;obtain⟨rfl,rfl⟩:=h;exact⟨fun y d=>by simp at d;subst d;exact(b x (by simp) c).1,by simp⟩
  ·cases h
 |x::y::r,ts,r2,h,b=>by
  simp only[yd] at h;split at h
  ·rename_i c;split at h
   ·obtain⟨z,f,e⟩:=vr.1 h;simp only[yo] at e;obtain⟨rfl,rfl⟩:=e;obtain⟨g,i⟩:=Bl r (ts:=z.1) (r2:=z.2) f (fun u a=>b u (by simp[a]));refine⟨fun u a=>?_,fun u a=>by simp[i u a]⟩;rcases zw.1 a with rfl|a
    ·exact(b x (by simp) c).1
    ·exact g u a
   ·simp only[zs,yo] at h;obtain⟨rfl,rfl⟩:=h;exact⟨fun u a=>by simp at a;subst a;exact(b x (by simp) c).1,fun u a=>by simp[List.mem_cons.1 a]⟩
  ·cases h
theorem dE{x:Pd}(h:x∈r.tail):x∈r:=by
 cases r with
 |nil=>exact h
 |cons a r=>simp at h;simp[h]
theorem ou{l:zj}(h:yV r=some (l,r2))(m:∀x∈r,lO x):l.neg=false/\lQ l/\∀x∈r2,x∈r:=by
 unfold yV at h;split at h
 ·rename_i k;cases r with
  |nil=>simp[Pw] at k
  |cons a r=>
   have j:a.1=1:=k;have i:=m a (by simp) (by rw[j];rfl);have e:nm (bl a.2)/\yQ (Qt (bl a.2))=true:=⟨i.1,i.2 j⟩;change (if Pw r=4 then(match yd r.tail with|none=>none|some (f,r2)=>if Pw r2=5 then some ((⟨false,a.2,f⟩:zj),r2.tail) else none) else some ((⟨false,a.2,[]⟩:zj),r))=some (l,r2) at h;by_cases g:Pw r=4
   ·rw[zb g] at h;cases c:yd r.tail with
    |none=>rw[c] at h;cases h
    |some z=>
     obtain⟨f,q⟩:=z;rw[c] at h;simp only at h;by_cases d:Pw q=5
     ·rw[zb d] at h;simp only[zs,yo] at h;obtain⟨rfl,rfl⟩:=h;obtain⟨o,p⟩:=Bl _ c (fun u b=>m u (by simp[dE b]));exact⟨rfl,⟨e,o⟩,fun u b=>by simp[dE (p u (dE b))]⟩
     ·rw[za d] at h;cases h
   ·rw[za g] at h;simp only[zs,yo] at h;obtain⟨rfl,rfl⟩:=h;exact⟨rfl,⟨e,fun y n=>by cases n⟩,fun u b=>by simp[b]⟩
 ·cases h
theorem EQ{l:zj}(h:uy r=some (l,r2))(c:∀x∈r,lO x):lQ l/\∀x∈r2,x∈r:=by
 unfold uy at h;split at h
 ·obtain⟨z,d,b⟩:=vr.1 h;simp only[yo] at b;obtain⟨rfl,rfl⟩:=b;obtain⟨_,f,e⟩:=ou (l:=z.1) (r2:=z.2) d (fun u a=>c u (dE a));exact⟨f,fun u a=>dE (e u a)⟩
 ·exact(ou h c).2
theorem AQ:∀(n:Nat) {r:List Pd} {b:List zj} {r2:List Pd},xM n r=some (b,r2)->(∀x∈r,lO x)->(∀l∈b,lQ l)/\∀x∈r2,x∈r
 |0,_,_,_,h,_=>by cases h
 |n+1,r,b,r2,h,i=>by
  unfold xM at h;split at h
  ·cases h
  ·rename_i a p m;obtain⟨f,e⟩:=EQ m i;split at h
   ·obtain⟨z,j,g⟩:=vr.1 h;simp only[yo] at g;obtain⟨rfl,rfl⟩:=g;obtain⟨k,o⟩:=AQ n (b:=z.1) (r2:=z.2) j (fun u d=>i u (e u (dE d)));refine⟨fun l c=>?_,fun u d=>e u (dE (o u d))⟩;rcases zw.1 c with rfl|c
    ·exact f
    ·exact k l c
   ·simp only[zs,yo] at h;obtain⟨rfl,rfl⟩:=h;exact⟨fun l c=>by simp at c;subst c;exact f,e⟩
theorem IJ{n:Nat}{c:zc}(h:uR n r=some (c,r2))(i:∀x∈r,lO x):mZ c/\∀x∈r2,x∈r:=by
 unfold uR at h;split at h
 ·cases h
 ·rename_i a q k;obtain⟨g,f,e⟩:=ou k i;split at h
  ·split at h
   ·cases h
   ·rename_i b s o;split at h
    ·simp only[zs,yo] at h;obtain⟨rfl,rfl⟩:=h;obtain⟨j,m⟩:=AQ n o (fun u d=>i u (e u (dE d)));exact⟨⟨g,f,j⟩,fun u d=>e u (dE (m u (dE d)))⟩
    ·cases h
  ·split at h
   ·simp only[zs,yo] at h;obtain⟨rfl,rfl⟩:=h;exact⟨⟨g,f,fun l p=>by cases p⟩,fun u d=>e u (dE d)⟩
   ·cases h
theorem DQ{n:Nat}:∀(m:Nat) {r:List Pd} {cs:List zc},yH n m r=some cs->(∀x∈r,lO x)->∀c∈cs,mZ c
 |m,[],cs,h,_=>by cases m<;>(simp[yH] at h;subst h;simp)
 |0,_::_,cs,h,_=>by simp[yH] at h
 |m+1,x::r,cs,h,b=>by
  unfold yH at h;split at h
  ·cases h
  ·rename_i c r2 g;obtain⟨d,f⟩:=IJ g b;obtain⟨j,i,rfl⟩:=vr.1 h;intro z a;rcases zw.1 a with rfl|a
   ·exact d
   ·exact DQ m i (fun u e=>b u (f u e)) z a
theorem EW{s:ByteArray}{l:List Pd}(h:Pl s=some l):∀x∈l,lO x:=by
 unfold Pl at h;rw[Iq] at h;exact oz _ _ _ h
end
end Go.Proofs.YteampbddflhngaaGreat
