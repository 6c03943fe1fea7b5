import Derived.Test.YteampbddflhngaaGreatX25
namespace Go.Proofs.YteampbddflhngaaGreat
set_option linter.all false
section
variable {r r2:List P4}
def dD(l:zj):Nat:=if l.args.length=0 then 2 else 2*l.args.length+3
def Rx(c:zc):Nat:=dD c.head+(c.body.map dD).sum
theorem lY{k:Int}(h:PM r=k)(a:k≠0):r.length=r.tail.length+1:=by
 cases r with
 |nil=>exact zB h.symm a
 |cons x r=>simp
theorem A0:∀(r:List P4) {ts:List ByteArray} {r2:List P4},yi r=some (ts,r2)->2*ts.length+r2.length<=r.length+1
 |[],_,_,h=>by simp[yi] at h
 |[x],ts,r2,h=>by
  simp only[yi] at h;split at h<;>simp at h
  obtain⟨rfl,rfl⟩:=h;simp
 |x::y::r,ts,r2,h=>by
  simp only[yi] at h;split at h
  ·split at h
   ·cases a:yi r with
    |none=>rw[a] at h;simp at h
    |some z=>
     obtain⟨b,c⟩:=z;rw[a] at h;simp at h;have:=A0 r a;obtain⟨rfl,rfl⟩:=h;simp;omega
   ·simp at h;obtain⟨rfl,rfl⟩:=h;simp;omega
  ·simp at h
theorem iq{a:zj}(h:yY r=some (a,r2)):dD a+r2.length<=r.length+1:=by
 unfold yY at h;split at h
 ·rename_i c;have:=lY c (by decide);split at h
  ·rename_i b;have:=lY b (by decide);split at h
   ·cases h
   ·rename_i g f e;have:=A0 _ e;split at h
    ·rename_i d;have:=lY d (by decide);cases h;unfold dD;dsimp only;split<;>omega
    ·cases h
  ·cases h;simp[dD];omega
 ·cases h
theorem JF{a:zj}(h:us r=some (a,r2)):dD a+r2.length<=r.length+1:=by
 unfold us at h;split at h
 ·rename_i c;have:=lY c (by decide);cases b:yY r.tail with
  |none=>rw[b] at h;simp at h
  |some z=>
   obtain⟨d,e⟩:=z;rw[b] at h;simp at h;have:=iq b;obtain⟨rfl,rfl⟩:=h;simp only[dD] at this ⊢;omega
 ·exact iq h
theorem I3{n:Nat}:∀{r r2:List P4} {b:List zj},xE n r=some (b,r2)->(b.map dD).sum+r2.length<=r.length+1:=by
 induction n with
 |zero=>intro r r2 b h;simp[xE] at h
 |succ n g=>
  intro r r2 b h;cases c:us r with
  |none=>rw[pI c] at h;cases h
  |some z=>
   obtain⟨a,f⟩:=z;have:=JF c;by_cases d:PM f=6
   ·have:=lY d (by decide);rw[pj c d] at h;cases e:xE n f.tail with
    |none=>rw[e] at h;simp at h
    |some z=>
     rw[e] at h;simp at h;have:=g e;obtain⟨rfl,rfl⟩:=h;simp only[xQ,vI];omega
   ·rw[nU c d] at h;simp at h;obtain⟨rfl,rfl⟩:=h;simp;omega
theorem O3{n:Nat}{c:zc}(h:vc n r=some (c,r2)):Rx c+r2.length<=r.length:=by
 unfold vc at h;split at h
 ·cases h
 ·rename_i a j g;have:=iq g;split at h
  ·rename_i e;have:=lY e (by decide);split at h
   ·cases h
   ·rename_i b i f;have:=I3 f;split at h
    ·rename_i d;have:=lY d (by decide);cases h;unfold Rx;dsimp only;omega
    ·cases h
  ·split at h
   ·rename_i d;have:=lY d (by decide);cases h;simp[Rx];omega
   ·cases h
theorem EC{a:Nat}:∀{m:Nat} {r:List P4} {cs:List zc},yF a m r=some cs->(cs.map Rx).sum<=r.length
 |_,[],cs,h=>by simp[yF] at h;subst h;simp
 |0,_::_,cs,h=>by simp[yF] at h
 |m+1,x::r,cs,h=>by
  cases d:vc a (x::r) with
  |none=>rw[sK (by simp) d] at h;cases h
  |some z=>
   obtain⟨c,r2⟩:=z;rw[pP (by simp) d] at h;cases b:yF a m r2 with
   |none=>rw[b] at h;simp at h
   |some e=>
    rw[b] at h;simp at h;subst h;have g:=O3 d;have f:=EC b;simp only[xQ,vI];omega
theorem Dg{s:ByteArray}{cs:List zc}{t:List zh}(h:uc s=.ok (cs,t)):(cs.map Rx).sum<=500:=by
 unfold uc at h;split at h
 ·cases h
 ·rename_i g;split at h
  ·cases h
  ·rename_i e b;split at h
   ·cases h
   ·rename_i c a;have f:=EC a;have d:=rO b;split at h
    ·cases h
    ·split at h
     ·cases h
     ·split at h
      ·split at h
       ·cases h;omega
       ·cases h
      ·cases h
def kf(a:List zj):Nat:=(a.map fun l=>l.args.countP zO).sum
def fj(b:List zj):Nat:=(b.map fun l=>l.args.countP fun a=>!zO a).sum
theorem iz:∀(b:List zj),(∀l∈b,l.args.length<=3)->3*(kf b+fj b)<=(b.map dD).sum
 |[],_=>by simp[kf,fj]
 |l::b,h=>by
  have d:=iz b (fun x c=>h x (by simp[c]));have e:=h l (by simp);have i:=List.length_eq_countP_add_countP zO (l:=l.args);have f:3*l.args.length<=dD l:=by unfold dD;split<;>omega
  have g:l.args.countP (fun a=>decide ¬zO a=true)=l.args.countP fun a=>!zO a:=by congr 1;funext a;cases zO a<;>rfl
  simp only[kf,fj,xQ,vI] at d ⊢;omega
theorem og:∀(cs:List zc),(∀c∈cs,yE c=false)->3*((cs.map fun c=>kf c.body).sum+(cs.map fun c=>fj (zl c)).sum)<=(cs.map Rx).sum
 |[],_=>by simp
 |c::cs,h=>by
  have d:=og cs (fun x a=>h x (by simp[a]));obtain⟨e,_,g,_⟩:=lV (h c (by simp));have i:=iz c.body g;have f:=iz [c.head] (by simpa using e);have b:fj (zl c)=fj [c.head]+fj c.body:=by simp[fj,zl]
  simp only[xQ,vI,Rx,b] at d ⊢;simp at f;omega
theorem CQ{α β:Type}(f:α->List β):∀l:List α,(l.flatMap f).length=(l.map fun x=>(f x).length).sum
 |[]=>rfl
 |a::l=>by simp
theorem Cn(cs:List zc):(zp cs).length<=(cs.map fun c=>fj (zl c)).sum:=by
 obtain⟨j,g⟩:=fZ cs;have h:(zp cs).Nodup:=List.Pairwise.imp (fun{a b} q e=>by subst e;rw[PE] at q;cases q) j;have f:=pf h (l2:=cs.flatMap fun c=>(zl c).flatMap fun l=>l.args.filter fun a=>!zO a) (fun x d=>by
  obtain⟨c,m,l,k,d,i⟩:=(g x).1 d;exact uF.2 ⟨c,m,uF.2 ⟨l,k,xX.2 ⟨d,by simp[i]⟩⟩⟩)
 rw[CQ] at f;have e:(fun c:zc=>((zl c).flatMap fun l=>l.args.filter fun a=>!zO a).length)=fun c=>fj (zl c):=by
  funext c;rw[CQ];unfold fj;congr 2;funext l;rw[pz]
 rw[e] at f;exact f
end
def QK(V:Nat):Nat->Nat
 |0=>0
 |k+1=>V*QK V k+1
theorem E9{V:Nat}(b:1<=V):∀(k:Nat) (hs:List Nat),hs.length<=k->Qs V hs<=hs.sum*V ^ k+QK V k
 |_,[],_=>by simp[Qs]
 |0,h::r,a=>by simp at a
 |k+1,h::r,a=>by
  have e:=E9 b k r (by simpa using a);have c:V*(h+Qs V r)<=V*(h+(r.sum*V ^ k+QK V k)):=lH _ (by omega);have f:V*(h+(r.sum*V ^ k+QK V k))=V*h+r.sum*(V ^ k*V)+V*QK V k:=by
   rw[Nat.mul_add,Nat.mul_add,Nat.mul_left_comm V,Nat.mul_comm V (V ^ k)];omega
  have d:V*h<=h*(V ^ k*V):=by
   rw[Nat.mul_comm V h];refine lH _ ?_;have:=gN V (Nat.one_le_pow k V b);omega
  simp only[Qs,QK,vI,Nat.pow_succ,fH];omega
theorem DL{α:Type}(f g:α->Nat):∀a:List α,(a.map fun p=>f p+g p).sum=(a.map f).sum+(a.map g).sum
 |[]=>rfl
 |p::a=>by simp[DL f g a];omega
theorem BC{α:Type}:∀a:List α,(a.map fun _=>0).sum=0
 |[]=>rfl
 |p::a=>by simp[BC a]
theorem Bt{α:Type}(q:α->Bool):∀a:List α,(a.map fun p=>if q p=true then 1 else 0).sum=a.countP q
 |[]=>rfl
 |p::a=>by simp only[xQ,vI,Bt q a,List.countP_cons];omega
theorem eM(p:Nat):∀(a:List zt) (k:Nat),((a.zipIdx k).filterMap fun x=>(yN x.1 p).map fun b=>(x.2,b)).length=a.countP fun l=>zH l p
 |[],_=>rfl
 |l::a,k=>by
  have:=eM p a (k+1);rw[List.zipIdx_cons,pW,List.countP_cons];simp only[yN];cases c:zH l p<;>simp[yN] at this ⊢<;>omega
theorem oP(ps:List Nat):∀a:List zt,(ps.map fun p=>a.countP fun l=>zH l p).sum=(a.map fun l=>ps.countP (zH l)).sum
 |[]=>by simp[BC]
 |l::a=>by
  have c:=oP ps a;have b:=DL (fun p=>a.countP fun l=>zH l p) (fun p=>if zH l p=true then 1 else 0) ps;simp only[List.countP_cons,xQ,vI] at b ⊢;rw[b,c,Bt];omega
theorem O7(l:zt)(n:Nat):(List.range n).countP (zH l)<=l.qg.countP (·.var):=by
 rw[pz,pz];have h:((List.range n).filter (zH l)).Nodup:=List.Nodup.sublist List.filter_sublist List.nodup_range;have:=im h (l2:=(l.qg.filter (·.var)).map (·.num)) (fun x b=>by
  obtain⟨t,d,a,c⟩:=(hG l x).1 (xX.1 b).2;exact z9.2 ⟨t,xX.2 ⟨d,a⟩,c⟩)
 simpa using this
theorem Bo{α:Type}{f g:α->Nat}:∀{ps:List α},(∀p∈ps,f p<=g p)->(ps.map f).sum<=(ps.map g).sum
 |[],_=>zf _
 |p::ps,h=>by
  have c:=Bo (ps:=ps) (fun x a=>h x (by simp[a]));have b:=h p (by simp);simp only[xQ,vI];omega
theorem Ko(r:zq):(Qk r).sum<=(r.qc.map fun l=>l.qg.countP (·.var)).sum:=by
 have e:Qk r=(List.range r.vars).map fun p=>r.qc.countP fun l=>zH l p:=by
  unfold Qk yW;congr 1;funext p;exact eM p r.qc 0
 rw[e,oP];exact Bo fun l _=>O7 l _
theorem Kr{r:zq}(h:gK r)(d:r.vars≠0):1<=(Qk r).sum:=by
 obtain⟨n,a⟩:∃n,r.vars=n+1:=⟨r.vars-1,by omega⟩;obtain⟨l,c,b⟩:=h.safe 0 (by omega);have e:(yW r 0).length=r.qc.countP fun l=>zH l 0:=eM 0 r.qc 0;have f:0<r.qc.countP fun l=>zH l 0:=List.countP_pos_iff.2 ⟨l,c,b⟩;unfold Qk;rw[a,List.range_succ_eq_map,xQ,vI];omega
theorem LX{V:Nat}(d:1<=V){r:zq}(h:gK r)(b:r.qc.length<=6):qt V r<=(Qk r).sum*(6*(V ^ 5+QK V 5)):=by
 unfold qt;by_cases a:r.vars=0
 ·simp[Qk,a,Qs]
 ·have c:=Kr h a;have e:=E9 d 5 (Qk r) (by simpa [Qk] using h.vars);have i:1*QK V 5<=(Qk r).sum*QK V 5:=gN _ c;have f:r.qc.length*Qs V (Qk r)<=6*Qs V (Qk r):=gN _ b;have g:(Qk r).sum*(6*(V ^ 5+QK V 5))=6*((Qk r).sum*V ^ 5+(Qk r).sum*QK V 5):=by rw[Nat.mul_left_comm,Nat.mul_add]
  omega
theorem Iv(t:List zh)(ns vs:List ByteArray)(b:List Nat)(l:zj):(zI t ns vs b l).qg.countP (·.var)=l.args.countP zO:=by
 unfold zI ub;simp only[lT,List.countP_map];congr 1;funext a;show(qR 0 _ (uG ns vs b a)).var=zO a;rw[(nP _ _ _).1];unfold uG;cases zO a<;>rfl
theorem Jy{cs:List zc}{k t:List zh}(h:PI cs k t){c:zc}(g:c∈cs)(ns:List ByteArray)(o:Option (List Int))(n:gV (yQ (o.getD [])) (z7 c).length){V:Nat}(m:1<=V):Rv (uY t ns c o)/\qt V (uY t ns c o)<=kf c.body*(6*(V ^ 5+QK V 5)):=by
 have d:=(E8 h g ns o n).fine;obtain⟨_,q,_,_⟩:=lV (h.many c g);have j:(uY t ns c o).qc.length<=6:=by
  have:(c.body.filter fun l=>!l.neg).length<=c.body.length:=nE _ _;simp only[uY,uJ];omega
 have r:=Ko (uY t ns c o);have p:((uY t ns c o).qc.map fun l=>l.qg.countP (·.var)).sum<=kf c.body:=by
  simp only[uY,lT];have e:((fun l:zt=>l.qg.countP (·.var)) ∘ zI t ns (z7 c) (yQ (o.getD [])))=fun l:zj=>l.args.countP zO:=by
   funext l;exact Iv t ns _ _ l
  rw[e];unfold kf;generalize c.body=b;induction b with
  |nil=>exact zf _
  |cons a b s=>
   rw[List.filter_cons];split<;>simp only[xQ,vI]<;>omega
 refine⟨⟨d.vars,fun e=>?_⟩,zT (LX m d j) (gN _ (by omega))⟩;by_cases i:(uY t ns c o).vars=0
 ·exact i
 ·obtain⟨l,f,_⟩:=d.safe 0 (by omega);rw[e] at f;cases f
theorem DU{t:List zh}{ns:List ByteArray}{os:Option (List (Option (List Int)))}{V G:Nat}:∀(a:List (zc×Nat)),(∀x∈a,Rv (uY t ns x.1 (uw os x.2))/\qt V (uY t ns x.1 (uw os x.2))<=kf x.1.body*G)->(∀r∈a.filterMap (fun x=>if x.1.body.length>0 then some (uY t ns x.1 (uw os x.2)) else none),Rv r)/\((a.filterMap fun x=>if x.1.body.length>0 then some (uY t ns x.1 (uw os x.2)) else none).map (qt V)).sum<=(a.map fun x=>kf x.1.body).sum*G
 |[],_=>by simp
 |x::a,h=>by
  obtain⟨c,g⟩:=DU (t:=t) (ns:=ns) (os:=os) (V:=V) (G:=G) a (fun y e=>h y (by simp[e]));obtain⟨f,i⟩:=h x (by simp);rw[pW];simp only[xQ,vI,fH];by_cases d:x.1.body.length>0
  ·simp only[d,if_true,xQ,vI,zu];refine⟨fun r b=>?_,by omega⟩;rcases b with rfl|b
   ·exact f
   ·exact c r b
  ·simp only[d,if_false];exact⟨c,by omega⟩
theorem L3:∀v,v<167->1048576*((166-v)*(6*(zJ v ^ 5+QK (zJ v) 5)))<9223372036854775808:=by decide +kernel
theorem FR{s:ByteArray}{cs:List zc}{n t:List zh}(p:uc s=.ok (cs,t))(h:PI cs n t)(os:Option (List (Option (List Int))))(l:∀i (w:i<cs.length),gV (yQ ((uw os i).getD [])) (z7 cs[i]).length){a mr mx:Nat}(b:mx<=1048576){R:zw}(j:lJ a (vS t (zp cs) os cs) mr mx=some (some R)):0<=R.jf:=by
 have u:=Dg p;have q:=og cs h.many;have v:=Cn cs;have o:1<=zJ (zp cs).length:=by unfold zJ;split<;>omega
 obtain⟨m,g⟩:=DU (t:=t) (ns:=zp cs) (os:=os) (V:=zJ (zp cs).length) (G:=6*(zJ (zp cs).length ^ 5+QK (zJ (zp cs).length) 5)) cs.zipIdx (fun x b=>by
  obtain⟨f,d⟩:=List.mem_zipIdx' b;exact Jy h (by rw[d];exact zv f) _ _ (by rw[d];exact l _ f) o)
 have e:(cs.zipIdx.map fun x=>kf x.1.body)=cs.map fun c=>kf c.body:=by
  rw[show(fun x:zc×Nat=>kf x.1.body)=(fun c:zc=>kf c.body) ∘ Prod.fst from rfl,←lT,List.zipIdx_map_fst]
 rw[e] at g;have r:=L3 (zp cs).length (by omega);have k:(cs.map fun c=>kf c.body).sum*(6*(zJ (zp cs).length ^ 5+QK (zJ (zp cs).length) 5))<=(166-(zp cs).length)*(6*(zJ (zp cs).length ^ 5+QK (zJ (zp cs).length) 5)):=gN _ (by omega);refine K1 b m ?_ j;have:1048576*((vS t (zp cs) os cs).rules.map (qt (zJ (vS t (zp cs) os cs).qf))).sum<=1048576*((166-(zp cs).length)*(6*(zJ (zp cs).length ^ 5+QK (zJ (zp cs).length) 5))):=lH _ (zT g k);omega
end Go.Proofs.YteampbddflhngaaGreat
