import Derived.Test.YteampbddflhngaaGreatZ24
namespace Go.Proofs.YteampbddflhngaaGreat
set_option linter.all false
section
variable {r r2:List QA}
def fu(l:zj):Nat:=if l.args.length=0 then 2 else 2*l.args.length+3
def S7(c:zd):Nat:=fu c.head+(c.body.map fu).sum
theorem mR{k:Int}(h:QR r=k)(a:k≠0):r.length=r.tail.length+1:=by
 cases r with
 |nil=>exact zC h.symm a
 |cons x r=>simp
theorem AU:∀(r:List QA) {ts:κ} {r2:List QA},yk r=some (ts,r2)->2*ts.length+r2.length<=r.length+1
 |[],_,_,h=>by simp[yk] at h
 |[x],ts,r2,h=>by
  simp only[yk] at h;split at h<;>simp at h
  obtain⟨rfl,rfl⟩:=h;simp
 |x::y::r,ts,r2,h=>by
  simp only[yk] at h;split at h
  ·split at h
   ·cases a:yk r with
    |none=>rw[a] at h;simp at h
    |some z=>
     obtain⟨b,c⟩:=z;rw[a] at h;simp at h;have:=AU r a;obtain⟨rfl,rfl⟩:=h;simp;omega
   ·simp at h;obtain⟨rfl,rfl⟩:=h;simp;omega
  ·simp at h
theorem it{a:zj}(h:yZ r=some (a,r2)):fu a+r2.length<=r.length+1:=by
 unfold yZ at h;split at h
 ·rename_i c;have:=mR c (by decide);split at h
  ·rename_i e;have:=mR e (by decide);split at h
   ·cases h
   ·rename_i f g b;have:=AU _ b;split at h
    ·rename_i d;have:=mR d (by decide);cases h;unfold fu;dsimp only;split<;>omega
    ·cases h
  ·cases h;simp[fu];omega
 ·cases h
theorem Kl{a:zj}(h:uC r=some (a,r2)):fu a+r2.length<=r.length+1:=by
 unfold uC at h;split at h
 ·rename_i c;have:=mR c (by decide);cases b:yZ r.tail with
  |none=>rw[b] at h;simp at h
  |some z=>
   obtain⟨d,e⟩:=z;rw[b] at h;simp at h;have:=it b;obtain⟨rfl,rfl⟩:=h;simp only[fu] at this ⊢;omega
 ·exact it h
theorem It{n:Nat}:∀{r r2:List QA} {b:List zj},xJ n r=some (b,r2)->(b.map fu).sum+r2.length<=r.length+1:=by
 induction n with
 |zero=>intro r r2 b h;simp[xJ] at h
 |succ n g=>
  intro r r2 b h;cases c:uC r with
  |none=>rw[rY c] at h;cases h
  |some z=>
   obtain⟨a,f⟩:=z;have:=Kl c;by_cases e:QR f=6
   ·have:=mR e (by decide);rw[pD c e] at h;cases d:xJ n f.tail with
    |none=>rw[d] at h;simp at h
    |some z=>
     rw[d] at h;simp at h;have:=g d;obtain⟨rfl,rfl⟩:=h;simp only[xI,vQ];omega
   ·rw[pG c e] at h;simp at h;obtain⟨rfl,rfl⟩:=h;simp;omega
theorem N1{n:Nat}{c:zd}(h:vh n r=some (c,r2)):S7 c+r2.length<=r.length:=by
 unfold vh at h;split at h
 ·cases h
 ·rename_i a j g;have:=it g;split at h
  ·rename_i e;have:=mR e (by decide);split at h
   ·cases h
   ·rename_i b i f;have:=It f;split at h
    ·rename_i d;have:=mR d (by decide);cases h;unfold S7;dsimp only;omega
    ·cases h
  ·split at h
   ·rename_i d;have:=mR d (by decide);cases h;simp[S7];omega
   ·cases h
theorem CX{d:Nat}:∀{m:Nat} {r:List QA} {cs:List zd},yI d m r=some cs->(cs.map S7).sum<=r.length
 |_,[],cs,h=>by simp[yI] at h;subst h;simp
 |0,_::_,cs,h=>by simp[yI] at h
 |m+1,x::r,cs,h=>by
  cases a:vh d (x::r) with
  |none=>rw[wm (by simp) a] at h;cases h
  |some z=>
   obtain⟨c,r2⟩:=z;rw[rU (by simp) a] at h;cases b:yI d m r2 with
   |none=>rw[b] at h;simp at h
   |some e=>
    rw[b] at h;simp at h;subst h;have f:=N1 a;have g:=CX b;simp only[xI,vQ];omega
theorem DK{s:ByteArray}{cs:List zd}{t:List zh}(h:xQ s=.ok (cs,t)):(cs.map S7).sum<=500:=by
 unfold xQ at h;split at h
 ·cases h
 ·rename_i e;split at h
  ·cases h
  ·rename_i d b;split at h
   ·cases h
   ·rename_i a c;have f:=CX c;have g:=sY b;split at h
    ·cases h
    ·split at h
     ·cases h
     ·split at h
      ·split at h
       ·cases h;omega
       ·cases h
      ·cases h
def kN(a:List zj):Nat:=(a.map fun l=>l.args.countP zO).sum
def fx(b:List zj):Nat:=(b.map fun l=>l.args.countP fun a=>!zO a).sum
theorem eI:∀(b:List zj),(∀l∈b,l.args.length<=3)->3*(kN b+fx b)<=(b.map fu).sum
 |[],_=>by simp[kN,fx]
 |l::b,h=>by
  have c:=eI b (fun x d=>h x (by simp[d]));have g:=h l (by simp);have e:=List.length_eq_countP_add_countP zO (l:=l.args);have i:3*l.args.length<=fu l:=by unfold fu;split<;>omega
  have f:l.args.countP (fun a=>decide ¬zO a=true)=l.args.countP fun a=>!zO a:=by congr 1;funext a;cases zO a<;>rfl
  simp only[kN,fx,xI,vQ] at c ⊢;omega
theorem oM:∀(cs:List zd),(∀c∈cs,yE c=false)->3*((cs.map fun c=>kN c.body).sum+(cs.map fun c=>fx (zk c)).sum)<=(cs.map S7).sum
 |[],_=>by simp
 |c::cs,h=>by
  have b:=oM cs (fun x f=>h x (by simp[f]));obtain⟨e,_,a,_⟩:=mz (h c (by simp));have i:=eI c.body a;have d:=eI [c.head] (by simpa using e);have g:fx (zk c)=fx [c.head]+fx c.body:=by simp[fx,zk]
  simp only[xI,vQ,S7,g] at b ⊢;simp at d;omega
theorem BL{α β:Type}(f:α->List β):∀l:List α,(l.flatMap f).length=(l.map fun x=>(f x).length).sum
 |[]=>rfl
 |a::l=>by simp
theorem Cs(cs:List zd):(zq cs).length<=(cs.map fun c=>fx (zk c)).sum:=by
 obtain⟨i,m⟩:=lf cs;have j:(zq cs).Nodup:=List.Pairwise.imp (fun{a b} q e=>by subst e;rw[QK] at q;cases q) i;have d:=lz j (l2:=cs.flatMap fun c=>(zk c).flatMap fun l=>l.args.filter fun a=>!zO a) (fun x f=>by
  obtain⟨c,g,l,h,f,k⟩:=(m x).1 f;exact uJ.2 ⟨c,g,uJ.2 ⟨l,h,uS.2 ⟨f,by simp[k]⟩⟩⟩)
 rw[BL] at d;have e:(fun c:zd=>((zk c).flatMap fun l=>l.args.filter fun a=>!zO a).length)=fun c=>fx (zk c):=by
  funext c;rw[BL];unfold fx;congr 2;funext l;rw[ra]
 rw[e] at d;exact d
end
def RQ(V:Nat):Nat->Nat
 |0=>0
 |k+1=>V*RQ V k+1
theorem C8{V:Nat}(b:1<=V):∀(k:Nat) (hs:List Nat),hs.length<=k->R0 V hs<=hs.sum*V ^ k+RQ V k
 |_,[],_=>by simp[R0]
 |0,h::r,a=>by simp at a
 |k+1,h::r,a=>by
  have c:=C8 b k r (by simpa using a);have e:V*(h+R0 V r)<=V*(h+(r.sum*V ^ k+RQ V k)):=m9 _ (by omega);have d:V*(h+(r.sum*V ^ k+RQ V k))=V*h+r.sum*(V ^ k*V)+V*RQ V k:=by
   rw[Nat.mul_add,Nat.mul_add,Nat.mul_left_comm V,Nat.mul_comm V (V ^ k)];omega
  have f:V*h<=h*(V ^ k*V):=by
   rw[Nat.mul_comm V h];refine m9 _ ?_;have:=d8 V (Nat.one_le_pow k V b);omega
  simp only[R0,RQ,vQ,Nat.pow_succ,hY];omega
theorem Ee{α:Type}(f g:α->Nat):∀a:List α,(a.map fun p=>f p+g p).sum=(a.map f).sum+(a.map g).sum
 |[]=>rfl
 |p::a=>by simp[Ee f g a];omega
theorem CN{α:Type}:∀a:List α,(a.map fun _=>0).sum=0
 |[]=>rfl
 |p::a=>by simp[CN a]
theorem CT{α:Type}(q:α->Bool):∀a:List α,(a.map fun p=>if q p=true then 1 else 0).sum=a.countP q
 |[]=>rfl
 |p::a=>by simp only[xI,vQ,CT q a,List.countP_cons];omega
theorem oZ(p:Nat):∀(a:List zu) (k:Nat),((a.zipIdx k).filterMap fun x=>(yN x.1 p).map fun b=>(x.2,b)).length=a.countP fun l=>zH l p
 |[],_=>rfl
 |l::a,k=>by
  have:=oZ p a (k+1);rw[List.zipIdx_cons,pZ,List.countP_cons];simp only[yN];cases c:zH l p<;>simp[yN] at this ⊢<;>omega
theorem BP(ps:List Nat):∀a:List zu,(ps.map fun p=>a.countP fun l=>zH l p).sum=(a.map fun l=>ps.countP (zH l)).sum
 |[]=>by simp[CN]
 |l::a=>by
  have c:=BP ps a;have b:=Ee (fun p=>a.countP fun l=>zH l p) (fun p=>if zH l p=true then 1 else 0) ps;simp only[List.countP_cons,xI,vQ] at b ⊢;rw[b,c,CT];omega
theorem Lj(l:zu)(n:Nat):(List.range n).countP (zH l)<=l.qg.countP (·.var):=by
 rw[ra,ra];have h:((List.range n).filter (zH l)).Nodup:=List.Nodup.sublist List.filter_sublist List.nodup_range;have:=iT h (l2:=(l.qg.filter (·.var)).map (·.num)) (fun x d=>by
  obtain⟨t,b,a,c⟩:=(fK l x).1 (uS.1 d).2;exact zy.2 ⟨t,uS.2 ⟨b,a⟩,c⟩)
 simpa using this
theorem EX{α:Type}{f g:α->Nat}:∀{ps:List α},(∀p∈ps,f p<=g p)->(ps.map f).sum<=(ps.map g).sum
 |[],_=>zg _
 |p::ps,h=>by
  have c:=EX (ps:=ps) (fun x a=>h x (by simp[a]));have b:=h p (by simp);simp only[xI,vQ];omega
theorem Lx(r:zr):(Rt r).sum<=(r.qc.map fun l=>l.qg.countP (·.var)).sum:=by
 have e:Rt r=(List.range r.vars).map fun p=>r.qc.countP fun l=>zH l p:=by
  unfold Rt xb;congr 1;funext p;exact oZ p r.qc 0
 rw[e,BP];exact EX fun l _=>Lj l _
theorem Ie{r:zr}(h:gY r)(f:r.vars≠0):1<=(Rt r).sum:=by
 obtain⟨n,b⟩:∃n,r.vars=n+1:=⟨r.vars-1,by omega⟩;obtain⟨l,a,c⟩:=h.safe 0 (by omega);have e:(xb r 0).length=r.qc.countP fun l=>zH l 0:=oZ 0 r.qc 0;have d:0<r.qc.countP fun l=>zH l 0:=List.countP_pos_iff.2 ⟨l,a,c⟩;unfold Rt;rw[b,List.range_succ_eq_map,xI,vQ];omega
theorem I0{V:Nat}(b:1<=V){r:zr}(h:gY r)(d:r.qc.length<=6):qO V r<=(Rt r).sum*(6*(V ^ 5+RQ V 5)):=by
 unfold qO;by_cases a:r.vars=0
 ·simp[Rt,a,R0]
 ·have c:=Ie h a;have g:=C8 b 5 (Rt r) (by simpa [Rt] using h.vars);have e:1*RQ V 5<=(Rt r).sum*RQ V 5:=d8 _ c;have i:r.qc.length*R0 V (Rt r)<=6*R0 V (Rt r):=d8 _ d;have f:(Rt r).sum*(6*(V ^ 5+RQ V 5))=6*((Rt r).sum*V ^ 5+(Rt r).sum*RQ V 5):=by rw[Nat.mul_left_comm,Nat.mul_add]
  omega
theorem MG(t:List zh)(ns vs:κ)(b:List Nat)(l:zj):(zK t ns vs b l).qg.countP (·.var)=l.args.countP zO:=by
 unfold zK uj;simp only[ml,List.countP_map];congr 1;funext a;show(ju 0 _ (uH ns vs b a)).var=zO a;rw[(pT _ _ _).1];unfold uH;cases zO a<;>rfl
theorem IJ{cs:List zd}{n t:List zh}(h:QL cs n t){c:zd}(f:c∈cs)(ns:κ)(o:Option (List Int))(i:kc (yD (o.getD [])) (zw c).length){V:Nat}(j:1<=V):S3 (vo t ns c o)/\qO V (vo t ns c o)<=kN c.body*(6*(V ^ 5+RQ V 5)):=by
 have d:=(AK h f ns o i).fine;obtain⟨_,q,_,_⟩:=mz (h.many c f);have k:(vo t ns c o).qc.length<=6:=by
  have:(c.body.filter fun l=>!l.neg).length<=c.body.length:=p8 _ _;simp only[vo,uu];omega
 have p:=Lx (vo t ns c o);have r:((vo t ns c o).qc.map fun l=>l.qg.countP (·.var)).sum<=kN c.body:=by
  simp only[vo,ml];have e:((fun l:zu=>l.qg.countP (·.var)) ∘ zK t ns (zw c) (yD (o.getD [])))=fun l:zj=>l.args.countP zO:=by
   funext l;exact MG t ns _ _ l
  rw[e];unfold kN;generalize c.body=b;induction b with
  |nil=>exact zg _
  |cons a b s=>
   rw[List.filter_cons];split<;>simp only[xI,vQ]<;>omega
 refine⟨⟨d.vars,fun e=>?_⟩,yc (I0 j d k) (d8 _ (by omega))⟩;by_cases m:(vo t ns c o).vars=0
 ·exact m
 ·obtain⟨l,g,_⟩:=d.safe 0 (by omega);rw[e] at g;cases g
theorem F6{t:List zh}{ns:κ}{os:Option (List (Option (List Int)))}{V G:Nat}:∀(xs:List (zd×Nat)),(∀x∈xs,S3 (vo t ns x.1 (xV os x.2))/\qO V (vo t ns x.1 (xV os x.2))<=kN x.1.body*G)->(∀r∈xs.filterMap (fun x=>if x.1.body.length>0 then some (vo t ns x.1 (xV os x.2)) else none),S3 r)/\((xs.filterMap fun x=>if x.1.body.length>0 then some (vo t ns x.1 (xV os x.2)) else none).map (qO V)).sum<=(xs.map fun x=>kN x.1.body).sum*G
 |[],_=>by simp
 |x::xs,h=>by
  obtain⟨c,g⟩:=F6 (t:=t) (ns:=ns) (os:=os) (V:=V) (G:=G) xs (fun y d=>h y (by simp[d]));obtain⟨e,f⟩:=h x (by simp);rw[pZ];simp only[xI,vQ,hY];by_cases b:x.1.body.length>0
  ·simp only[b,if_true,xI,vQ,zx];refine⟨fun r a=>?_,by omega⟩;rcases a with rfl|a
   ·exact e
   ·exact c r a
  ·simp only[b,if_false];exact⟨c,by omega⟩
theorem FV:∀v,v<167->1048576*((166-v)*(6*(zM v ^ 5+RQ (zM v) 5)))<9223372036854775808:=by decide +kernel
theorem Nx{s:ByteArray}{cs:List zd}{o t:List zh}(j:xQ s=.ok (cs,t))(h:QL cs o t)(os:Option (List (Option (List Int))))(l:∀i (q:i<cs.length),kc (yD ((xV os i).getD [])) (zw cs[i]).length){a mr mx:Nat}(b:mx<=1048576){R:z7}(p:m5 a (vj t (zq cs) os cs) mr mx=some (some R)):0<=R.jf:=by
 have r:=DK j;have w:=oM cs h.many;have u:=Cs cs;have m:1<=zM (zq cs).length:=by unfold zM;split<;>omega
 obtain⟨k,f⟩:=F6 (t:=t) (ns:=zq cs) (os:=os) (V:=zM (zq cs).length) (G:=6*(zM (zq cs).length ^ 5+RQ (zM (zq cs).length) 5)) cs.zipIdx (fun x b=>by
  obtain⟨g,d⟩:=List.mem_zipIdx' b;exact IJ h (by rw[d];exact zs g) _ _ (by rw[d];exact l _ g) m)
 have e:(cs.zipIdx.map fun x=>kN x.1.body)=cs.map fun c=>kN c.body:=by
  rw[show(fun x:zd×Nat=>kN x.1.body)=(fun c:zd=>kN c.body) ∘ Prod.fst from rfl,←ml,List.zipIdx_map_fst]
 rw[e] at f;have v:=FV (zq cs).length (by omega);have n:(cs.map fun c=>kN c.body).sum*(6*(zM (zq cs).length ^ 5+RQ (zM (zq cs).length) 5))<=(166-(zq cs).length)*(6*(zM (zq cs).length ^ 5+RQ (zM (zq cs).length) 5)):=d8 _ (by omega);refine Je b k ?_ p;have:1048576*((vj t (zq cs) os cs).rules.map (qO (zM (vj t (zq cs) os cs).qf))).sum<=1048576*((166-(zq cs).length)*(6*(zM (zq cs).length ^ 5+RQ (zM (zq cs).length) 5))):=m9 _ (yc f n);omega
end Go.Proofs.YteampbddflhngaaGreat
