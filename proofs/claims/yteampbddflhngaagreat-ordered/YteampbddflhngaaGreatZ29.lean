import Derived.Test.YteampbddflhngaaGreatZ24
namespace Go.Proofs.YteampbddflhngaaGreat
set_option linter.all false
section
variable {r r2:List QC}
def dV(l:zj):Nat:=if l.args.length=0 then 2 else 2*l.args.length+3
def S5(c:zd):Nat:=dV c.head+(c.body.map dV).sum
theorem mL{k:Int}(h:QT r=k)(a:k≠0):r.length=r.tail.length+1:=by
 cases r with
 |nil=>exact zC h.symm a
 |cons x r=>simp
theorem En:∀(r:List QC) {ts:κ} {r2:List QC},yk r=some (ts,r2)->2*ts.length+r2.length<=r.length+1
 |[],_,_,h=>by simp[yk] at h
 |[x],ts,r2,h=>by
  simp only[yk] at h;split at h<;>simp at h
  obtain⟨rfl,rfl⟩:=h;simp
 |x::y::r,ts,r2,h=>by
  simp only[yk] at h;split at h
  ·split at h
   ·cases a:yk r with
    |none=>rw[a] at h;simp at h
    |some z=>
     obtain⟨b,c⟩:=z;rw[a] at h;simp at h;have:=En r a;obtain⟨rfl,rfl⟩:=h;simp;omega
   ·simp at h;obtain⟨rfl,rfl⟩:=h;simp;omega
  ·simp at h
theorem eL{a:zj}(h:yZ r=some (a,r2)):dV a+r2.length<=r.length+1:=by
 unfold yZ at h;split at h
 ·rename_i e;have:=mL e (by decide);split at h
  ·rename_i b;have:=mL b (by decide);split at h
   ·cases h
   ·rename_i f g d;have:=En _ d;split at h
    ·rename_i c;have:=mL c (by decide);cases h;unfold dV;dsimp only;split<;>omega
    ·cases h
  ·cases h;simp[dV];omega
 ·cases h
theorem JN{a:zj}(h:uD r=some (a,r2)):dV a+r2.length<=r.length+1:=by
 unfold uD at h;split at h
 ·rename_i c;have:=mL c (by decide);cases b:yZ r.tail with
  |none=>rw[b] at h;simp at h
  |some z=>
   obtain⟨d,e⟩:=z;rw[b] at h;simp at h;have:=eL b;obtain⟨rfl,rfl⟩:=h;simp only[dV] at this ⊢;omega
 ·exact eL h
theorem Gs{n:Nat}:∀{r r2:List QC} {b:List zj},xK n r=some (b,r2)->(b.map dV).sum+r2.length<=r.length+1:=by
 induction n with
 |zero=>intro r r2 b h;simp[xK] at h
 |succ n g=>
  intro r r2 b h;cases c:uD r with
  |none=>rw[rh c] at h;cases h
  |some z=>
   obtain⟨a,f⟩:=z;have:=JN c;by_cases e:QT f=6
   ·have:=mL e (by decide);rw[pT c e] at h;cases d:xK n f.tail with
    |none=>rw[d] at h;simp at h
    |some z=>
     rw[d] at h;simp at h;have:=g d;obtain⟨rfl,rfl⟩:=h;simp only[xH,vT];omega
   ·rw[pJ c e] at h;simp at h;obtain⟨rfl,rfl⟩:=h;simp;omega
theorem GX{n:Nat}{c:zd}(h:vo n r=some (c,r2)):S5 c+r2.length<=r.length:=by
 unfold vo at h;split at h
 ·cases h
 ·rename_i a i g;have:=eL g;split at h
  ·rename_i e;have:=mL e (by decide);split at h
   ·cases h
   ·rename_i b j f;have:=Gs f;split at h
    ·rename_i d;have:=mL d (by decide);cases h;unfold S5;dsimp only;omega
    ·cases h
  ·split at h
   ·rename_i d;have:=mL d (by decide);cases h;simp[S5];omega
   ·cases h
theorem AY{d:Nat}:∀{m:Nat} {r:List QC} {cs:List zd},yI d m r=some cs->(cs.map S5).sum<=r.length
 |_,[],cs,h=>by simp[yI] at h;subst h;simp
 |0,_::_,cs,h=>by simp[yI] at h
 |m+1,x::r,cs,h=>by
  cases a:vo d (x::r) with
  |none=>rw[sJ (by simp) a] at h;cases h
  |some z=>
   obtain⟨c,r2⟩:=z;rw[sg (by simp) a] at h;cases b:yI d m r2 with
   |none=>rw[b] at h;simp at h
   |some e=>
    rw[b] at h;simp at h;subst h;have g:=GX a;have f:=AY b;simp only[xH,vT];omega
theorem Az{s:ByteArray}{cs:List zd}{t:List zh}(h:xL s=.ok (cs,t)):(cs.map S5).sum<=500:=by
 unfold xL at h;split at h
 ·cases h
 ·rename_i d;split at h
  ·cases h
  ·rename_i e c;split at h
   ·cases h
   ·rename_i b a;have g:=AY a;have f:=sA c;split at h
    ·cases h
    ·split at h
     ·cases h
     ·split at h
      ·split at h
       ·cases h;omega
       ·cases h
      ·cases h
def kN(a:List zj):Nat:=(a.map fun l=>l.args.countP zP).sum
def fy(b:List zj):Nat:=(b.map fun l=>l.args.countP fun a=>!zP a).sum
theorem i4:∀(b:List zj),(∀l∈b,l.args.length<=3)->3*(kN b+fy b)<=(b.map dV).sum
 |[],_=>by simp[kN,fy]
 |l::b,h=>by
  have d:=i4 b (fun x c=>h x (by simp[c]));have g:=h l (by simp);have i:=List.length_eq_countP_add_countP zP (l:=l.args);have e:3*l.args.length<=dV l:=by unfold dV;split<;>omega
  have f:l.args.countP (fun a=>decide ¬zP a=true)=l.args.countP fun a=>!zP a:=by congr 1;funext a;cases zP a<;>rfl
  simp only[kN,fy,xH,vT] at d ⊢;omega
theorem iN:∀(cs:List zd),(∀c∈cs,yE c=false)->3*((cs.map fun c=>kN c.body).sum+(cs.map fun c=>fy (zk c)).sum)<=(cs.map S5).sum
 |[],_=>by simp
 |c::cs,h=>by
  have g:=iN cs (fun x e=>h x (by simp[e]));obtain⟨d,_,a,_⟩:=mj (h c (by simp));have i:=i4 c.body a;have f:=i4 [c.head] (by simpa using d);have b:fy (zk c)=fy [c.head]+fy c.body:=by simp[fy,zk]
  simp only[xH,vT,S5,b] at g ⊢;simp at f;omega
theorem Bm{α β:Type}(f:α->List β):∀l:List α,(l.flatMap f).length=(l.map fun x=>(f x).length).sum
 |[]=>rfl
 |a::l=>by simp
theorem CH(cs:List zd):(zq cs).length<=(cs.map fun c=>fy (zk c)).sum:=by
 obtain⟨m,k⟩:=hZ cs;have j:(zq cs).Nodup:=List.Pairwise.imp (fun{a b} q e=>by subst e;rw[QM] at q;cases q) m;have d:=lS j (l2:=cs.flatMap fun c=>(zk c).flatMap fun l=>l.args.filter fun a=>!zP a) (fun x f=>by
  obtain⟨c,h,l,i,f,g⟩:=(k x).1 f;exact uS.2 ⟨c,h,uS.2 ⟨l,i,ub.2 ⟨f,by simp[g]⟩⟩⟩)
 rw[Bm] at d;have e:(fun c:zd=>((zk c).flatMap fun l=>l.args.filter fun a=>!zP a).length)=fun c=>fy (zk c):=by
  funext c;rw[Bm];unfold fy;congr 2;funext l;rw[rq]
 rw[e] at d;exact d
end
def RW(V:Nat):Nat->Nat
 |0=>0
 |k+1=>V*RW V k+1
theorem Fs{V:Nat}(b:1<=V):∀(k:Nat) (hs:List Nat),hs.length<=k->R5 V hs<=hs.sum*V ^ k+RW V k
 |_,[],_=>by simp[R5]
 |0,h::r,a=>by simp at a
 |k+1,h::r,a=>by
  have f:=Fs b k r (by simpa using a);have e:V*(h+R5 V r)<=V*(h+(r.sum*V ^ k+RW V k)):=mA _ (by omega);have d:V*(h+(r.sum*V ^ k+RW V k))=V*h+r.sum*(V ^ k*V)+V*RW V k:=by
   rw[Nat.mul_add,Nat.mul_add,Nat.mul_left_comm V,Nat.mul_comm V (V ^ k)];omega
  have c:V*h<=h*(V ^ k*V):=by
   rw[Nat.mul_comm V h];refine mA _ ?_;have:=gZ V (Nat.one_le_pow k V b);omega
  simp only[R5,RW,vT,Nat.pow_succ,fS];omega
theorem Fz{α:Type}(f g:α->Nat):∀a:List α,(a.map fun p=>f p+g p).sum=(a.map f).sum+(a.map g).sum
 |[]=>rfl
 |p::a=>by simp[Fz f g a];omega
theorem EL{α:Type}:∀a:List α,(a.map fun _=>0).sum=0
 |[]=>rfl
 |p::a=>by simp[EL a]
theorem Ai{α:Type}(q:α->Bool):∀a:List α,(a.map fun p=>if q p=true then 1 else 0).sum=a.countP q
 |[]=>rfl
 |p::a=>by simp only[xH,vT,Ai q a,List.countP_cons];omega
theorem og(p:Nat):∀(a:List zu) (k:Nat),((a.zipIdx k).filterMap fun x=>(yQ x.1 p).map fun b=>(x.2,b)).length=a.countP fun l=>zH l p
 |[],_=>rfl
 |l::a,k=>by
  have:=og p a (k+1);rw[List.zipIdx_cons,rQ,List.countP_cons];simp only[yQ];cases c:zH l p<;>simp[yQ] at this ⊢<;>omega
theorem Cm(ps:List Nat):∀a:List zu,(ps.map fun p=>a.countP fun l=>zH l p).sum=(a.map fun l=>ps.countP (zH l)).sum
 |[]=>by simp[EL]
 |l::a=>by
  have c:=Cm ps a;have b:=Fz (fun p=>a.countP fun l=>zH l p) (fun p=>if zH l p=true then 1 else 0) ps;simp only[List.countP_cons,xH,vT] at b ⊢;rw[b,c,Ai];omega
theorem Gx(l:zu)(n:Nat):(List.range n).countP (zH l)<=l.qg.countP (·.var):=by
 rw[rq,rq];have h:((List.range n).filter (zH l)).Nodup:=List.Nodup.sublist List.filter_sublist List.nodup_range;have:=ox h (l2:=(l.qg.filter (·.var)).map (·.num)) (fun x c=>by
  obtain⟨t,b,d,a⟩:=(hY l x).1 (ub.1 c).2;exact z7.2 ⟨t,ub.2 ⟨b,d⟩,a⟩)
 simpa using this
theorem Cs{α:Type}{f g:α->Nat}:∀{ps:List α},(∀p∈ps,f p<=g p)->(ps.map f).sum<=(ps.map g).sum
 |[],_=>zg _
 |p::ps,h=>by
  have b:=Cs (ps:=ps) (fun x a=>h x (by simp[a]));have c:=h p (by simp);simp only[xH,vT];omega
theorem MF(r:zr):(Rv r).sum<=(r.qc.map fun l=>l.qg.countP (·.var)).sum:=by
 have e:Rv r=(List.range r.vars).map fun p=>r.qc.countP fun l=>zH l p:=by
  unfold Rv xa;congr 1;funext p;exact og p r.qc 0
 rw[e,Cm];exact Cs fun l _=>Gx l _
theorem Nj{r:zr}(h:gU r)(d:r.vars≠0):1<=(Rv r).sum:=by
 obtain⟨n,a⟩:∃n,r.vars=n+1:=⟨r.vars-1,by omega⟩;obtain⟨l,c,b⟩:=h.safe 0 (by omega);have e:(xa r 0).length=r.qc.countP fun l=>zH l 0:=og 0 r.qc 0;have f:0<r.qc.countP fun l=>zH l 0:=List.countP_pos_iff.2 ⟨l,c,b⟩;unfold Rv;rw[a,List.range_succ_eq_map,xH,vT];omega
theorem Ni{V:Nat}(c:1<=V){r:zr}(h:gU r)(b:r.qc.length<=6):qP V r<=(Rv r).sum*(6*(V ^ 5+RW V 5)):=by
 unfold qP;by_cases a:r.vars=0
 ·simp[Rv,a,R5]
 ·have d:=Nj h a;have i:=Fs c 5 (Rv r) (by simpa [Rv] using h.vars);have g:1*RW V 5<=(Rv r).sum*RW V 5:=gZ _ d;have f:r.qc.length*R5 V (Rv r)<=6*R5 V (Rv r):=gZ _ b;have e:(Rv r).sum*(6*(V ^ 5+RW V 5))=6*((Rv r).sum*V ^ 5+(Rv r).sum*RW V 5):=by rw[Nat.mul_left_comm,Nat.mul_add]
  omega
theorem Ka(t:List zh)(ns vs:κ)(b:List Nat)(l:zj):(zL t ns vs b l).qg.countP (·.var)=l.args.countP zP:=by
 unfold zL uh;simp only[mK,List.countP_map];congr 1;funext a;show(jv 0 _ (uT ns vs b a)).var=zP a;rw[(p6 _ _ _).1];unfold uT;cases zP a<;>rfl
theorem Mw{cs:List zd}{k t:List zh}(h:QN cs k t){c:zd}(f:c∈cs)(ns:κ)(o:Option (List Int))(n:ka (yB (o.getD [])) (zw c).length){V:Nat}(m:1<=V):S6 (vn t ns c o)/\qP V (vn t ns c o)<=kN c.body*(6*(V ^ 5+RW V 5)):=by
 have d:=(Cx h f ns o n).fine;obtain⟨_,p,_,_⟩:=mj (h.many c f);have j:(vn t ns c o).qc.length<=6:=by
  have:(c.body.filter fun l=>!l.neg).length<=c.body.length:=pf _ _;simp only[vn,uu];omega
 have s:=MF (vn t ns c o);have r:((vn t ns c o).qc.map fun l=>l.qg.countP (·.var)).sum<=kN c.body:=by
  simp only[vn,mK];have e:((fun l:zu=>l.qg.countP (·.var)) ∘ zL t ns (zw c) (yB (o.getD [])))=fun l:zj=>l.args.countP zP:=by
   funext l;exact Ka t ns _ _ l
  rw[e];unfold kN;generalize c.body=b;induction b with
  |nil=>exact zg _
  |cons a b q=>
   rw[List.filter_cons];split<;>simp only[xH,vT]<;>omega
 refine⟨⟨d.vars,fun e=>?_⟩,yc (Ni m d j) (gZ _ (by omega))⟩;by_cases i:(vn t ns c o).vars=0
 ·exact i
 ·obtain⟨l,g,_⟩:=d.safe 0 (by omega);rw[e] at g;cases g
theorem DG{t:List zh}{ns:κ}{os:Option (List (Option (List Int)))}{V G:Nat}:∀(xs:List (zd×Nat)),(∀x∈xs,S6 (vn t ns x.1 (xW os x.2))/\qP V (vn t ns x.1 (xW os x.2))<=kN x.1.body*G)->(∀r∈xs.filterMap (fun x=>if x.1.body.length>0 then some (vn t ns x.1 (xW os x.2)) else none),S6 r)/\((xs.filterMap fun x=>if x.1.body.length>0 then some (vn t ns x.1 (xW os x.2)) else none).map (qP V)).sum<=(xs.map fun x=>kN x.1.body).sum*G
 |[],_=>by simp
 |x::xs,h=>by
  obtain⟨c,g⟩:=DG (t:=t) (ns:=ns) (os:=os) (V:=V) (G:=G) xs (fun y d=>h y (by simp[d]));obtain⟨e,f⟩:=h x (by simp);rw[rQ];simp only[xH,vT,fS];by_cases b:x.1.body.length>0
  ·simp only[b,if_true,xH,vT,zx];refine⟨fun r a=>?_,by omega⟩;rcases a with rfl|a
   ·exact e
   ·exact c r a
  ·simp only[b,if_false];exact⟨c,by omega⟩
theorem Mh:∀v,v<167->1048576*((166-v)*(6*(zM v ^ 5+RW (zM v) 5)))<9223372036854775808:=by decide +kernel
theorem Ik{s:ByteArray}{cs:List zd}{m t:List zh}(j:xL s=.ok (cs,t))(h:QN cs m t)(os:Option (List (Option (List Int))))(o:∀i (w:i<cs.length),ka (yB ((xW os i).getD [])) (zw cs[i]).length){a mr mx:Nat}(b:mx<=1048576){R:zy}(p:my a (vd t (zq cs) os cs) mr mx=some (some R)):0<=R.jf:=by
 have q:=Az j;have u:=iN cs h.many;have r:=CH cs;have n:1<=zM (zq cs).length:=by unfold zM;split<;>omega
 obtain⟨k,f⟩:=DG (t:=t) (ns:=zq cs) (os:=os) (V:=zM (zq cs).length) (G:=6*(zM (zq cs).length ^ 5+RW (zM (zq cs).length) 5)) cs.zipIdx (fun x b=>by
  obtain⟨d,g⟩:=List.mem_zipIdx' b;exact Mw h (by rw[g];exact zs d) _ _ (by rw[g];exact o _ d) n)
 have e:(cs.zipIdx.map fun x=>kN x.1.body)=cs.map fun c=>kN c.body:=by
  rw[show(fun x:zd×Nat=>kN x.1.body)=(fun c:zd=>kN c.body) ∘ Prod.fst from rfl,←mK,List.zipIdx_map_fst]
 rw[e] at f;have v:=Mh (zq cs).length (by omega);have l:(cs.map fun c=>kN c.body).sum*(6*(zM (zq cs).length ^ 5+RW (zM (zq cs).length) 5))<=(166-(zq cs).length)*(6*(zM (zq cs).length ^ 5+RW (zM (zq cs).length) 5)):=gZ _ (by omega);refine IP b k ?_ p;have:1048576*((vd t (zq cs) os cs).rules.map (qP (zM (vd t (zq cs) os cs).qf))).sum<=1048576*((166-(zq cs).length)*(6*(zM (zq cs).length ^ 5+RW (zM (zq cs).length) 5))):=mA _ (yc f l);omega
end Go.Proofs.YteampbddflhngaaGreat
