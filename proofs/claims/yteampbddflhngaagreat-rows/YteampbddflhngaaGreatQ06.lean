import Derived.Test.YteampbddflhngaaGreatQ01
namespace Go.Proofs.YteampbddflhngaaGreat
set_option linter.all false
def St(b:UInt8):Int:=(b.toNat:Int)
def SP:List UInt8->Int
 |[]=>0
 |b::_=>St b
def hZ(l:List UInt8)(k:Int):Nat:=if k=9 then 2 else if k=1∨k=2 then(l.takeWhile λb=>Sb (St b)).length else if k=3 then(l.takeWhile λb=>yQ (St b)).length else 1
def mB:Nat->List UInt8->Option (List R8)
 |0,_=>some []
 |_+1,[]=>some []
 |n+1,a::l=>
  if qs (St a) then mB n l
  else if xp (St a) (SP l)=0 then none
  else if 6<hZ (a::l) (xp (St a) (SP l)) then none
  else(mB n ((a::l).drop (hZ (a::l) (xp (St a) (SP l))))).map ((xp (St a) (SP l),(⟨((a::l).take (hZ (a::l) (xp (St a) (SP l)))).toArray⟩:ByteArray))::·)
def iu(s:ByteArray)(i:Nat):RA s i=SP (s.data.toList.drop i):=by
 unfold RA;split;rename_i h;have a:i<s.data.toList.length:=by simpa using h
 rw[xh a];simp[SP,St,ByteArray.getElem_eq_getElem_data];rename_i h;rw[ua (by have:s.data.toList.length=s.size:=(by rw[pf];rfl);omega)];rfl
def Bx(p:Int->Bool)(s:ByteArray):∀(n i:Nat),s.size-i<=n->yJ p s i=i+((s.data.toList.drop i).takeWhile λb=>p (St b)).length:=by
 have f:s.data.toList.length=s.size:=by rw[pf];rfl
 intro n;induction n with
 |zero=>
  intro i h;rw[gV (by omega),ua (by omega)];simp
 |succ n e=>
  intro i h;by_cases d:i<s.size;have a:=iu s i;rw[xh (by omega)] at a ⊢;simp only[SP] at a;cases c:p (RA s i);rw[m5 c,nY,←a,c];simp;rw[lN d c,e (i+1) (by omega),nY,←a,c];simp;omega;rw[gV d,ua (by omega)];simp
def PF{s:ByteArray}{i:Nat}{k:Int}(a:k≠0):yr s i k=i+hZ (s.data.toList.drop i) k:=by
 unfold yr hZ;rw[za a];split;rfl;split;exact Bx Sb s _ i (zf _);split;exact Bx yQ s _ i (zf _);rfl
def If(s:ByteArray)(i m:Nat):s.extract i (i+m)=⟨((s.data.toList.drop i).take m).toArray⟩:=by
 apply ByteArray.ext;rw[ByteArray.data_extract];apply Array.ext';simp[List.take_drop]
def K3(s:ByteArray):∀(n i:Nat),RH n s i=mB n (s.data.toList.drop i):=by
 have j:s.data.toList.length=s.size:=by rw[pf];rfl
 intro n;induction n with
 |zero=>intro i;rfl
 |succ n h=>
  intro i;by_cases g:i<s.size;have c:=iu s i;have d:=iu s (i+1);have e:∀k,k≠0->yr s i k=i+hZ (s.data.toList.drop i) k:=λk b=>PF b;have f:=If s i;have a:∀m,s.data.toList.drop (i+m)=(s.data.toList.drop i).drop m:=λm=>by rw[List.drop_drop]
  have o:=xh (l:=s.data.toList) (i:=i) (by omega);unfold RH;rw[zb g];rw[o] at c e f a ⊢;unfold mB;simp only[SP] at c;rw[c,d,h];split;rfl;split;rfl;rename_i b;generalize xp (St s.data.toList[i]) (SP (List.drop (i+1) s.data.toList))=k at *;rw[e k b];generalize hZ (s.data.toList[i]::List.drop (i+1) s.data.toList) k=m at *;rw[eh,f m,h,a m];rw[rc g,ua (by omega)];rfl
structure ni (x:List UInt8):Prop where
 ne:x≠[]
 six:x.length<=6
 kind:(yY (SP x)=true∨vQ (SP x)=true)/\(∀b∈x,Sb (St b)=true)∨yQ (SP x)=true/\∀b∈x,yQ (St b)=true
def bl(x:ByteArray):List UInt8:=x.data.toList
def mO(l:zk):Prop:=(ni (bl l.pred)/\yY (SP (bl l.pred))=true)/\∀x∈l.args,ni (bl x)
def nO(c:zd):Prop:=c.head.neg=false/\mO c.head/\∀l∈c.body,mO l
section
variable {r r2:List R8}
def mN(x:R8):Prop:=S4 x.1=true->ni (bl x.2)/\(x.1=1->yY (SP (bl x.2))=true)
def oJ(p:UInt8->Bool)(l:List UInt8):l.take (l.takeWhile p).length=l.takeWhile p:=by
 induction l with
 |nil=>rfl
 |cons a l b=>
  rw[nY];split;simp[b];rfl
def e9{p:UInt8->Bool}:∀{l:List UInt8} {b:UInt8},b∈l.takeWhile p->p b=true
 |[],_,h=>by simp at h
 |a::l,b,h=>by
  rw[nY] at h;split at h
  .rename_i c;rcases zy.1 h with rfl|h
   .exact c
   .exact e9 h
  .cases h
def Ap:∀(n:Nat) (l:List UInt8) (ts:List R8),mB n l=some ts->∀x∈ts,mN x
 |0,_,ts,h,x,f=>by simp[mB] at h;subst h;cases f
 |_+1,[],ts,h,x,f=>by simp[mB] at h;subst h;cases f
 |n+1,a::l,ts,h,x,f=>by
  unfold mB at h;split at h
  .exact Ap n l ts h x f
  .split at h
   .cases h
   .rename_i y;split at h
    .cases h
    .rename_i t;obtain⟨v,w,rfl⟩:=vK.1 h;rcases zy.1 f with rfl|f
     .intro s;simp only at s ⊢;have u:∀m,bl (⟨((a::l).take m).toArray⟩:ByteArray)=(a::l).take m:=λm=>by simp[bl]
      rw[u];generalize c:xp (St a) (SP l)=k at *;unfold xp at c;by_cases g:yY (St a)=true
      .rw[zb g] at c;subst c;have e:hZ (a::l) 1=((a::l).takeWhile λb=>Sb (St b)).length:=rfl;rw[e] at t ⊢;rw[oJ];have d:(a::l).takeWhile (λb=>Sb (St b))=a::l.takeWhile (λb=>Sb (St b)):=by rw[nY,zb (by simp[Sb,g])]
       refine⟨⟨by rw[d];simp,by omega,zh ⟨zh (by rw[d];exact g),λb i=>e9 (p:=λb=>Sb (St b)) i⟩⟩,λ_=>by rw[d];exact g⟩
      .rw[za g] at c;by_cases o:vQ (St a)=true
       .rw[zb o] at c;subst c;have e:hZ (a::l) 2=((a::l).takeWhile λb=>Sb (St b)).length:=rfl;rw[e] at t ⊢;rw[oJ];have d:(a::l).takeWhile (λb=>Sb (St b))=a::l.takeWhile (λb=>Sb (St b)):=by rw[nY,zb (by simp[Sb,o])]
        exact⟨⟨by rw[d];simp,by omega,zh ⟨ze (by rw[d];exact o),λb i=>e9 (p:=λb=>Sb (St b)) i⟩⟩,λq=>by cases q⟩
       .rw[za o] at c;by_cases j:yQ (St a)=true
        .rw[zb j] at c;subst c;have e:hZ (a::l) 3=((a::l).takeWhile λb=>yQ (St b)).length:=rfl;rw[e] at t ⊢;rw[oJ];have d:(a::l).takeWhile (λb=>yQ (St b))=a::l.takeWhile (λb=>yQ (St b)):=by rw[nY,zb (by simp[j])]
         exact⟨⟨by rw[d];simp,by omega,ze ⟨by rw[d];exact j,λb i=>e9 (p:=λb=>yQ (St b)) i⟩⟩,λq=>by cases q⟩
        .exfalso;rw[za j] at c;split at c
         .subst c;simp[S4] at s
         .unfold dL at c
          (repeat' split at c)<;>subst c<;>simp[S4] at s
     .exact Ap n _ v w x f
def Bv:∀(r:List R8) {ts:κ} {r2:List R8},yq r=some (ts,r2)->(∀x∈r,mN x)->(∀y∈ts,ni (bl y))/\∀x∈r2,x∈r
 |[],_,_,h,_=>by simp[yq] at h
 |[x],ts,r2,h,b=>by
  simp only[yq] at h;split at h
  .rename_i c;simp only[zr,yc] at h;obtain⟨rfl,rfl⟩:=h;exact⟨λy d=>by simp at d;subst d;exact(b x (by simp) c).1,by simp⟩
  .cases h
 |x::y::r,ts,r2,h,b=>by
  simp only[yq] at h;split at h
  .rename_i c;split at h
   .obtain⟨z,i,e⟩:=vK.1 h;simp only[yc] at e;obtain⟨rfl,rfl⟩:=e;obtain⟨f,g⟩:=Bv r (ts:=z.1) (r2:=z.2) i (λu a=>b u (by simp[a]));refine⟨λu a=>?_,λu a=>by simp[g u a]⟩;rcases zy.1 a with rfl|a
    .exact(b x (by simp) c).1
    .exact f u a
   .simp only[zr,yc] at h;obtain⟨rfl,rfl⟩:=h;exact⟨λu a=>by simp at a;subst a;exact(b x (by simp) c).1,λu a=>by simp[List.mem_cons.1 a]⟩
  .cases h
def fC{x:R8}(h:x∈r.tail):x∈r:=by
 rcases r with _|⟨a,r⟩;exact h;simp at h;simp[h]
def oI{l:zk}(h:xo r=some (l,r2))(d:∀x∈r,mN x):l.neg=false/\mO l/\∀x∈r2,x∈r:=by
 unfold xo at h;split at h;rename_i i;rcases r with _|⟨a,r⟩;simp[RP] at i;have e:a.1=1:=i;have m:=d a (by simp) (by rw[e];rfl);have k:ni (bl a.2)/\yY (SP (bl a.2))=true:=⟨m.1,m.2 e⟩;change (if RP r=4 then(match yq r.tail with|none=>none|some (j,r2)=>if RP r2=5 then some ((⟨false,a.2,j⟩:zk),r2.tail) else none) else some ((⟨false,a.2,[]⟩:zk),r))=some (l,r2) at h;by_cases f:RP r=4;rw[zb f] at h;rcases c:yq r.tail with _|z;rw[c] at h;cases h;obtain⟨j,o⟩:=z;rw[c] at h;simp only at h;by_cases g:RP o=5;rw[zb g] at h;simp only[zr,yc] at h;obtain⟨rfl,rfl⟩:=h;obtain⟨p,q⟩:=Bv _ c (λu b=>d u (by simp[fC b]));exact⟨rfl,⟨k,p⟩,λu b=>by simp[fC (q u (fC b))]⟩;rw[za g] at h;cases h;rw[za f] at h;simp only[zr,yc] at h;obtain⟨rfl,rfl⟩:=h;exact⟨rfl,⟨k,λy n=>by cases n⟩,λu b=>by simp[b]⟩;cases h
def Ou{l:zk}(h:uK r=some (l,r2))(b:∀x∈r,mN x):mO l/\∀x∈r2,x∈r:=by
 unfold uK at h;split at h;obtain⟨z,f,c⟩:=vK.1 h;simp only[yc] at c;obtain⟨rfl,rfl⟩:=c;obtain⟨_,e,d⟩:=oI (l:=z.1) (r2:=z.2) f (λu a=>b u (fC a));exact⟨e,λu a=>fC (d u a)⟩;exact(oI h b).2
def Cn:∀(n:Nat) {r:List R8} {b:List zk} {r2:List R8},xW n r=some (b,r2)->(∀x∈r,mN x)->(∀l∈b,mO l)/\∀x∈r2,x∈r
 |0,_,_,_,h,_=>by cases h
 |n+1,r,b,r2,h,f=>by
  unfold xW at h;split at h
  .cases h
  .rename_i a p m;obtain⟨i,d⟩:=Ou m f;split at h
   .obtain⟨z,o,g⟩:=vK.1 h;simp only[yc] at g;obtain⟨rfl,rfl⟩:=g;obtain⟨k,j⟩:=Cn n (b:=z.1) (r2:=z.2) o (λu e=>f u (d u (fC e)));refine⟨λl c=>?_,λu e=>d u (fC (j u e))⟩;rcases zy.1 c with rfl|c
    .exact i
    .exact k l c
   .simp only[zr,yc] at h;obtain⟨rfl,rfl⟩:=h;exact⟨λl c=>by simp at c;subst c;exact i,d⟩
def IN{n:Nat}{c:zd}(h:vl n r=some (c,r2))(f:∀x∈r,mN x):nO c/\∀x∈r2,x∈r:=by
 unfold vl at h;split at h;cases h;rename_i a s m;obtain⟨i,g,e⟩:=oI m f;split at h;split at h;cases h;rename_i b q o;split at h;simp only[zr,yc] at h;obtain⟨rfl,rfl⟩:=h;obtain⟨k,j⟩:=Cn n o (λu d=>f u (e u (fC d)));exact⟨⟨i,g,k⟩,λu d=>e u (fC (j u (fC d)))⟩;cases h;split at h;simp only[zr,yc] at h;obtain⟨rfl,rfl⟩:=h;exact⟨⟨i,g,λl p=>by cases p⟩,λu d=>e u (fC d)⟩;cases h
def E9{n:Nat}:∀(m:Nat) {r:List R8} {cs:List zd},yO n m r=some cs->(∀x∈r,mN x)->∀c∈cs,nO c
 |m,[],cs,h,_=>by cases m<;>(simp[yO] at h;subst h;simp)
 |0,_::_,cs,h,_=>by simp[yO] at h
 |m+1,x::r,cs,h,b=>by
  unfold yO at h;split at h
  .cases h
  .rename_i c r2 d;obtain⟨e,f⟩:=IN d b;obtain⟨j,g,rfl⟩:=vK.1 h;intro z a;rcases zy.1 a with rfl|a
   .exact e
   .exact E9 m g (λu i=>b u (f u i)) z a
def Qz{s:ByteArray}{l:List R8}(h:RC s=some l):∀x∈l,mN x:=by
 unfold RC at h;rw[K3] at h;exact Ap _ _ _ h
end
end Go.Proofs.YteampbddflhngaaGreat
