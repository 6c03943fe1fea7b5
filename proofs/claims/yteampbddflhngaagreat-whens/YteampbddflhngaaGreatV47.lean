import Derived.Test.YteampbddflhngaaGreatV44
namespace Go.Proofs.YteampbddflhngaaGreat
set_option linter.all false
open Classical
def ye(fs:List z7)(h:zj)(body:List zj):List zj->y6->List (List ByteArray)
 |[],B=>if (body.any fun l=>l.neg&&(yC l.pred (yB B l.args) fs).isSome)=true then [] else [yB B h.args]
 |l::rest,B=>if l.neg=true then ye fs h body rest B else fs.flatMap fun f=>if f.1=l.pred then(match xn B l.args f.2.1 with|none=>[]|some a=>ye fs h body rest a) else []
structure re (cs:List zc) (fs:List z7):Prop where
 jf:∀f∈fs,∀c∈cs,∀l∈zm c,l.pred=f.1->f.2.1.length=l.args.length
 ne:∀f∈fs,∀x∈f.2.1,x≠ByteArray.empty
def nT(fs:List z7)(c:zc)(x:List ByteArray):Prop:=∃σ:ByteArray->ByteArray,(∀a,σ a≠ByteArray.empty)/\(∀l∈c.body,l.neg=false->∃m,(l.pred,P8 σ l,m)∈fs)/\(∀l∈c.body,l.neg=true->∀m,(l.pred,P8 σ l,m)∉fs)/\x=P8 σ c.head
theorem nA{fs:List z7}{p:ByteArray}{r:List ByteArray}:(yC p r fs).isSome=true↔∃m,(p,r,m)∈fs:=by
 cases a:yC p r fs with
 |none=>exact⟨fun q=>(by cases q),fun⟨m,e⟩=>zC e (wW a m)⟩
 |some k=>
  obtain⟨c,b,d⟩:=tO a;exact⟨fun _=>⟨fs[k].2.2,by rw[←b,←d];exact zu c⟩,fun _=>rfl⟩
theorem iL{cs:List zc}{fs:List z7}(w:re cs fs){c:zc}(A:c∈cs)(n:∀l∈zm c,∀a∈l.args,a≠ByteArray.empty)(i:∀l∈zm c,∀y∈l.args,zV y=true->y∈zy c){x:List ByteArray}:∀(rest done:List zj) (B:y6),c.body=done++rest->vG B->(∀l∈done,l.neg=false->(∃m,(l.pred,yB B l.args,m)∈fs)/\∀a∈l.args,yc B a≠ByteArray.empty)->x∈ye fs c.head c.body rest B->nT fs c x
 |[],done,B,e,C,u,d=>by
  rw[qA] at e;unfold ye at d;split at d
  ·cases d
  ·rename_i z;rw[ud] at d;have b:∀l∈zm c,yB B l.args=P8 (fun v=>if (Po B v).getD ByteArray.empty=ByteArray.empty then⟨#[0]⟩ else(Po B v).getD ByteArray.empty) l:=by
    intro l o;refine kf fun a k=>?_;unfold yc;split
    ·rename_i G;obtain⟨_,p,h,f,E⟩:=gJ.1 (i l o a k G);have:=(u p (by rw[←e];exact h) f).2 a E;unfold yc at this;rw[zb G] at this;exact(za this).symm
    ·rfl
   refine⟨_,fun a=>?_,fun l o r=>?_,fun l o r m I=>z ?_,d.trans (b _ (by simp[zm]))⟩
   ·split
    ·decide
    ·assumption
   ·rw[←b l (by simp[zm,o])];exact(u l (by rw[←e];exact o) r).1
   ·rw[←b l (by simp[zm,o])] at I;rw[kY];exact⟨l,o,by rw[r,ml];exact nA.2 ⟨m,I⟩⟩
 |l::rest,done,B,e,C,u,d=>by
  have K:c.body=(done++[l])++rest:=by rw[e];simp
  have t:l∈zm c:=by simp[zm,e]
  unfold ye at d;split at d
  ·rename_i r;refine iL w A n i rest (done++[l]) B K C (fun p h f=>?_) d;rcases zW.1 h with q|q
   ·exact u p q f
   ·rw[ud.1 q,r] at f;cases f
  ·obtain⟨g,j,d⟩:=uX.1 d;split at d
   ·rename_i J;split at d
    ·cases d
    ·rename_i s M;obtain⟨N,F,H⟩:=ny l.args g.2.1 B s (w.jf g j c A l t J.symm).symm (w.ne g j) (n l t) C M;refine iL w A n i rest (done++[l]) s K N (fun p h f=>?_) d;rcases zW.1 h with q|q
     ·obtain⟨⟨m,L⟩,D⟩:=u p q f;have b:yB s p.args=yB B p.args:=kf fun a k=>m6 F (D a k);exact⟨⟨m,by rw[b];exact L⟩,fun a k=>by rw[m6 F (D a k)];exact D a k⟩
     ·rw[ud.1 q];refine⟨⟨g.2.2,by rw[H,←J];exact j⟩,fun a k=>?_⟩;have:yc s a∈yB s l.args:=zB.2 ⟨a,k,rfl⟩;rw[H] at this;exact w.ne g j _ this
   ·cases d
theorem oq{fs:List z7}{c:zc}(d:∀l∈zm c,∀a∈l.args,a≠ByteArray.empty)(i:∀l∈zm c,∀y∈l.args,zV y=true->y∈zy c){σ:ByteArray->ByteArray}(k:∀a,σ a≠ByteArray.empty)(g:∀l∈c.body,l.neg=false->∃m,(l.pred,P8 σ l,m)∈fs)(f:∀l∈c.body,l.neg=true->∀m,(l.pred,P8 σ l,m)∉fs):∀(rest done:List zj) (B:y6),c.body=done++rest->vG B->Qo B σ->(∀l∈done,l.neg=false->∀a∈l.args,yc B a≠ByteArray.empty)->P8 σ c.head∈ye fs c.head c.body rest B
 |[],done,B,e,C,z,w=>by
  rw[qA] at e;have n:∀l∈zm c,yB B l.args=P8 σ l:=by
   intro l s;refine kf fun a j=>z.val ?_;by_cases H:zV a=true
   ·obtain⟨_,p,h,b,G⟩:=gJ.1 (i l s a j H);exact w p (by rw[←e];exact h) b a G
   ·unfold yc;rw[za H];exact d l s a j
  unfold ye;rw[za]
  ·rw[n c.head (by simp[zm])];simp
  ·intro q;rw[kY] at q;obtain⟨l,s,F⟩:=q;rw[uZ,n l (by simp[zm,s])] at F;obtain⟨m,O⟩:=nA.1 F.2;exact f l s F.1 m O
 |l::rest,done,B,e,C,z,w=>by
  have I:c.body=(done++[l])++rest:=by rw[e];simp
  have u:l∈c.body:=by rw[e];simp
  have o:l∈zm c:=by simp[zm,u]
  unfold ye;split
  ·rename_i A;refine oq d i k g f rest (done++[l]) B I C z fun p h b=>?_;rcases zW.1 h with q|q
   ·exact w p q b
   ·rw[ud.1 q,A] at b;cases b
  ·rename_i A;obtain⟨m,L⟩:=g l u (by simpa using A);obtain⟨v,E,D⟩:=tp k l.args B (d l o) z;have t:xn B l.args (P8 σ l)=some v:=E;have r:∀x∈P8 σ l,x≠ByteArray.empty:=by
    intro x J;obtain⟨a,j,rfl⟩:=zB.1 J;split
    ·exact k a
    ·exact d l o a j
   obtain⟨M,K,N⟩:=ny l.args (P8 σ l) B v (by simp[P8]) r (d l o) C t;refine uX.2 ⟨_,L,?_⟩;rw[zb rfl,t];refine oq d i k g f rest (done++[l]) v I M D fun p h b a j=>?_;rcases zW.1 h with q|q
   ·rw[m6 K (w p q b a j)];exact w p q b a j
   ·rw[ud.1 q] at j;have:yc v a∈yB v l.args:=zB.2 ⟨a,j,rfl⟩;rw[N] at this;exact r _ this
theorem Dp{cs:List zc}{fs:List z7}(j:re cs fs){c:zc}(i:c∈cs)(d:∀l∈zm c,∀a∈l.args,a≠ByteArray.empty)(b:∀l∈zm c,∀y∈l.args,zV y=true->y∈zy c){x:List ByteArray}:x∈ye fs c.head c.body c.body []↔nT fs c x:=
 ⟨iL j i d b c.body [] [] rfl (fun v x q=>by cases q) (fun l e=>by cases e),fun⟨_,h,g,k,f⟩=>f ▸ oq d b h g k c.body [] [] rfl (fun v x q=>by cases q) (fun v x q=>by cases q) (fun l e=>by cases e)⟩
section
variable {t:List zg}{cs:List zc}{L:List z7}{D:DB}{c:zc}
theorem iq(a:y5 (Pb t)){p:Nat}(f:p<t.length):zY t t[p].name=some t[p]/\zP t t[p].name=p:=by
 have d:zP t t[p].name=p:=by
  rcases nQ (zP t t[p].name) p with q|q|q
  ·have b:=sD t t[p].name a t[zP t t[p].name] (by
    rw[kX];exact⟨0,by simp;omega,by simp⟩)
   have e:=sd.1 a (zP t t[p].name) p (by simp[Pb];omega) (by simp[Pb];omega) q;simp only[Pb,vO] at e;rw[e] at b;cases b
  ·exact q
  ·have b:=rK t t[p].name t[p] (by
    rw[kX];exact⟨p,by simp;omega,by simp⟩)
   rw[Pr] at b;cases b
 refine⟨?_,d⟩;unfold zY;rw[d,yq f];simp
theorem kW(a:y5 (Pb t)){p:Nat}(d:p<t.length):zF t (gK t p)=p/\gK t p=t[p].name:=by
 have e:gK t p=t[p].name:=by unfold gK Pb;simp[List.getD,d]
 obtain⟨f,b⟩:=iq a d;rw[e];exact⟨by unfold zF;rw[f,b];rfl,rfl⟩
structure PO (t:List zg) (ns:List ByteArray) (L:List z7) (D:DB):Prop where
 mem:∀f,f∈L↔∃p,p<t.length/\∃r m,D p r=some m/\f=(gK t p,x6 ns r (xI t p) 3,m)
 once:L.Nodup
 ok:pJ (t.map (·.jf)) D
 inside:sC (t.map (·.jf)) ns.length D
structure xJ (cs:List zc) (t:List zg):Prop where
 words:∀c∈cs,mZ c
 lit:∀c∈cs,∀l∈zm c,zF t l.pred<t.length/\xI t (zF t l.pred)=l.args.length/\gK t (zF t l.pred)=l.pred/\l.args.length<=3
 rise:y5 (Pb t)
 small:∀p,p<t.length->xI t p<=3
 cov:∀c∈cs,∀l∈zm c,∀y∈l.args,zV y=true->y∈zy c
theorem xJ.of{a:List zg}(o:∀c∈cs,mZ c)(h:Pt cs a t):xJ cs t:=by
 have d:PS t=PS a:=by have:=mH (a.length+1) a cs;rw[h.jm] at this;exact this
 have m:Pb t=Pb a:=by
  have:=congrArg (List.map Prod.fst) d;simpa [PS,Pb,Function.comp_def] using this
 have g:y5 (Pb t):=by rw[m];exact h.tab.rise
 have v:∀i (j:i<cs.length),f8 (xb ((vA none i).getD [])) (zy cs[i]).length:=fun i j=>tw (lY (h.many _ (zu j)));refine⟨o,fun c b l f=>?_,g,fun p q=>?_,fun c b=>h.covered b⟩
 ·obtain⟨e,s,x,k,n,w⟩:=h.lit b f;obtain⟨z,u,B⟩:=qI s;refine⟨k,n,?_,?_⟩
  ·rw[(kW g k).2];have:t[zF t l.pred]=e:=by simp only[w,u]
   rw[this,x]
  ·obtain⟨r,A,y,_⟩:=ni (h.many c b);rcases zw.1 f with rfl|q
   ·exact r
   ·exact y l q
 ·unfold xI;rw[Ph _ (by simpa using q)];exact(sQ h (zp cs) none v).small _ (zu _)
theorem xJ.ne{cs:List zc}{t:List zg}(h:xJ cs t){c:zc}(d:c∈cs):∀l∈zm c,∀a∈l.args,a≠ByteArray.empty:=by
 intro l g a f e;have b:lQ l:=by
  rcases zw.1 g with rfl|q
  ·exact(h.words c d).2.1
  ·exact(h.words c d).2.2 l q
 have:=(b.2 a f).ne;rw[e] at this;exact this rfl
theorem xJ.nsz(h:xJ cs t):∀y∈zp cs,y≠ByteArray.empty:=by
 intro y b;obtain⟨c,e,l,d,a,_⟩:=((gG cs).2 y).1 b;exact h.ne e l d y a
theorem PO.lit{cs:List zc}{t:List zg}{L:List z7}{D:DB}(b:xJ cs t)(h:PO t (zp cs) L D){c:zc}(n:c∈cs){l:zj}(j:l∈zm c)(row:List ByteArray)(m:Nat):(l.pred,row,m)∈L↔∃r,D (zF t l.pred) r=some m/\row=x6 (zp cs) r l.args.length 3:=by
 obtain⟨o,d,i,q⟩:=b.lit c n l j;rw[h.mem];constructor
 ·rintro⟨p,g,r,s,a,e⟩;simp only[yo] at e;obtain⟨f,k,rfl⟩:=e;have:zF t l.pred=p:=by rw[f];exact(kW b.rise g).1
  subst this;exact⟨r,a,by rw[k,d]⟩
 ·rintro⟨r,a,rfl⟩;exact⟨zF t l.pred,o,r,m,a,by rw[d,i]⟩
theorem PO.can(f:xJ cs t)(h:PO t (zp cs) L D)(j:c∈cs){l:zj}(g:l∈zm c){r:zk}(b:Pj D (zF t l.pred) r):Pp l.args.length r/\∀i,i<l.args.length->r.getD i 0<(zp cs).length:=by
 have d:=(h.ok _ _ b).2;have a:=h.inside _ _ b;have e:(t.map (·.jf)).getD (zF t l.pred) 0=l.args.length:=(f.lit c j l g).2.1;rw[e] at d a;exact⟨d,a⟩
theorem PO.fs(b:xJ cs t)(h:PO t (zp cs) L D):re cs L:=by
 refine⟨?_,?_⟩
 ·intro f d c q l n e;obtain⟨s,row,m⟩:=f;simp only at e ⊢;subst e;obtain⟨r,_,rfl⟩:=(h.lit b q n row m).1 d;rw[nX]
 ·intro f d x a;obtain⟨p,j,r,m,o,rfl⟩:=(h.mem f).1 d;have k:=h.inside p r (by unfold Pj;rw[o];rfl);simp only[x6,zB,kG] at a;obtain⟨i,g,rfl⟩:=a;have:=b.small p j;rw[zb (by omega)];exact b.nsz _ (eE (k i g))
theorem ww(ns:List ByteArray)(σ:ByteArray->Nat)(l:zj){i:Nat}(a:i<3):(vH ns σ l).getD i 0=jI ns σ l i:=by
 have:i=0∨i=1∨i=2:=by omega
 rcases this with rfl|rfl|rfl<;>rfl
theorem xJ.can(n:xJ cs t)(j:c∈cs){σ:ByteArray->Nat}(g:∀v∈zy c,σ v<(zp cs).length):∀l∈zm c,Pp l.args.length (vH (zp cs) σ l)/\∀i,i<l.args.length->(vH (zp cs) σ l).getD i 0<(zp cs).length:=by
 have b:=gG cs;intro l h;have q:=(n.lit c j l h).2.2.2;refine⟨⟨rfl,fun i a=>?_⟩,fun i a=>?_⟩
 ·by_cases o:i<3
  ·rw[ww _ _ _ o];unfold jI;rw[kR a]
  ·rw[List.getD,kR (by simp[vH];omega)];rfl
 ·rw[ww _ _ _ (by omega)];unfold jI;rw[yq a];simp only;split
  ·rename_i f;exact g _ (n.cov c j l h _ (zu a) f)
  ·rename_i f;have p:=(b.2 _).2 ⟨c,j,l,h,zu a,by simpa using f⟩;obtain⟨k,m,e⟩:=kX.1 p;have d:=pW b.1 m;rw[List.getD,yq m,uo,e] at d;rw[d];exact m
theorem PO.der1(f:xJ cs t)(h:PO t (zp cs) L D)(g:c∈cs){r:zk}(M:sc t (zp cs) c D r):nT L c (x6 (zp cs) r c.head.args.length 3)/\Pp c.head.args.length r/\∀i,i<c.head.args.length->r.getD i 0<(zp cs).length:=by
 obtain⟨σ,F,J,B⟩:=M;have s:=gG cs;have n:∀v∈zy c,σ v<(zp cs).length:=by
  intro v x;obtain⟨p,l,d,k,w⟩:=gJ.1 x;have b:l∈zm c:=by simp[zm,d]
  obtain⟨u,z⟩:=h.can f g b (F l d k);obtain⟨i,E,rfl⟩:=kX.1 w;have A:=(f.lit c g l b).2.2.2;have:=z i E;rw[ww _ _ _ (by omega)] at this;unfold jI at this;rw[yq E] at this;simpa only[zb p] using this
 have e:=f.can g n;have j:∀l∈zm c,P8 (fun v=>if v∈zy c then(zp cs).getD (σ v) ByteArray.empty else⟨#[0]⟩) l=x6 (zp cs) (vH (zp cs) σ l) l.args.length 3:=by
  intro l d;rw[tt g d (f.lit c g l d).2.2.2];unfold P8;refine kf fun a I=>?_;split
  ·rename_i x;exact zb (f.cov c g l d a I x)
  ·rfl
 have o:c.head∈zm c:=by simp[zm]
 refine⟨⟨_,fun a=>?_,fun l d k=>?_,fun l d k m y=>?_,by rw[j _ o,B]⟩,by rw[B];exact e _ o⟩
 ·split
  ·rename_i q;exact f.nsz _ (eE (n a q))
  ·decide
 ·have b:l∈zm c:=by simp[zm,d]
  obtain⟨m,y⟩:=mi.1 (F l d k);exact⟨m,(h.lit f g b _ m).2 ⟨_,y,j l b⟩⟩
 ·have b:l∈zm c:=by simp[zm,d]
  obtain⟨G,u,z⟩:=(h.lit f g b _ m).1 y;obtain⟨K,H⟩:=h.can f g b (r:=G) (by unfold Pj;rw[u];rfl);have A:=(f.lit c g l b).2.2.2;have C:=lM s.1 A K H;have N:=lM s.1 A (e l b).1 (e l b).2;rw[←z,j l b,N,zs] at C;rw[←C,J l d k] at u;cases u
theorem PO.der2(g:xJ cs t)(h:PO t (zp cs) L D)(d:c∈cs){x:List ByteArray}(J:nT L c x):∃r,sc t (zp cs) c D r/\x=x6 (zp cs) r c.head.args.length 3:=by
 obtain⟨σ,_,E,H,rfl⟩:=J;have s:=gG cs;have I:∀l∈c.body,l.neg=false->Pj D (zF t l.pred) (vH (zp cs) (fun v=>(yT (zp cs) (σ v)).getD 0) l):=by
  intro l f k;have b:l∈zm c:=by simp[zm,f]
  obtain⟨m,y⟩:=E l f k;obtain⟨r,o,e⟩:=(h.lit g d b _ m).1 y;have C:Pj D (zF t l.pred) r:=by unfold Pj;rw[o];rfl
  obtain⟨F,z⟩:=h.can g d b C;rw[←Iy s.1 F z e.symm];exact C
 have n:∀v∈zy c,(zp cs).getD ((yT (zp cs) (σ v)).getD 0) ByteArray.empty=σ v:=by
  intro v w;obtain⟨p,l,f,k,u⟩:=gJ.1 w;have b:l∈zm c:=by simp[zm,f]
  obtain⟨m,y⟩:=E l f k;obtain⟨r,o,e⟩:=(h.lit g d b _ m).1 y;obtain⟨F,z⟩:=h.can g d b (r:=r) (by unfold Pj;rw[o];rfl);have K:=(g.lit c d l b).2.2.2;obtain⟨i,A,rfl⟩:=kX.1 u;have B:(x6 (zp cs) r l.args.length 3)[i]'(by rw[nX];exact A)=(P8 σ l)[i]'(by simp[P8];exact A):=by simp only[←e]
  simp only[x6,P8,vO,nD] at B;rw[zb (by omega),zb p] at B;rw[←B,pW s.1 (z i A)];rfl
 have q:∀l∈zm c,P8 (fun v=>(zp cs).getD ((yT (zp cs) (σ v)).getD 0) ByteArray.empty) l=P8 σ l:=by
  intro l f;refine kf fun a G=>?_;split
  ·rename_i w;exact n a (g.cov c d l f a G w)
  ·rfl
 have j:c.head∈zm c:=by simp[zm]
 refine⟨_,⟨_,I,fun l f k=>?_,rfl⟩,by rw[tt d j (g.lit c d c.head j).2.2.2,q c.head j]⟩;have b:l∈zm c:=by simp[zm,f]
 cases o:D (zF t l.pred) (vH (zp cs) (fun v=>(yT (zp cs) (σ v)).getD 0) l) with
 |none=>rfl
 |some m=>
  exfalso;refine H l f k m ((h.lit g d b _ m).2 ⟨_,o,?_⟩);rw[tt d b (g.lit c d l b).2.2.2,q l b]
end
section
variable {cs:List zc}{t:List zg}{L:List z7}
def ue(fs l:List z7)(f:z7):List z7:=if (yC f.1 f.2.1 fs).isSome=true∨(yC f.1 f.2.1 l).isSome=true then l else l++[f]
theorem sa{fs:List z7}{k:Nat}:∀(d l:List z7),(∀g∈d,g.2.2=k)->(∀g∈l,g.2.2=k)->l.Nodup->(∀g∈l,¬∃m,(g.1,g.2.1,m)∈fs)->(d.foldl (ue fs) l).Nodup/\∀f,f∈d.foldl (ue fs) l↔f∈l∨(f∈d/\¬∃m,(f.1,f.2.1,m)∈fs)
 |[],l,_,_,o,_=>⟨o,fun f=>by simp⟩
 |g::d,l,v,s,o,y=>by
  have u:=v g (by simp);have n:∀g∈d,g.2.2=k:=fun x j=>v x (by simp[j]);rw[uv];by_cases q:(∃m,(g.1,g.2.1,m)∈fs)∨∃m,(g.1,g.2.1,m)∈l
  ·rw[show ue fs l g=l from zb (q.imp nA.2 nA.2)];obtain⟨p,r⟩:=sa d l n s o y;refine⟨p,fun f=>(r f).trans ⟨fun h=>h.imp_right fun h=>⟨by simp[h.1],h.2⟩,fun h=>?_⟩⟩;rcases h with h|⟨c,i⟩
   ·exact zf h
   ·rcases zw.1 c with rfl|c
    ·rcases q with q|⟨m,q⟩
     ·exact zC q i
     ·have:f=(f.1,f.2.1,m):=Prod.ext rfl (Prod.ext rfl (u.trans (s _ q).symm));exact zf (by rw[this];exact q)
    ·exact ze ⟨c,i⟩
  ·rw[show ue fs l g=l++[g] from za fun z=>q (z.imp nA.1 nA.1)];have w:¬∃m,(g.1,g.2.1,m)∈fs:=fun z=>q (zf z);have A:g∉l:=fun z=>q (ze ⟨g.2.2,z⟩);obtain⟨p,r⟩:=sa d (l++[g]) n (fun x j=>by
    rcases zW.1 j with z|z
    ·exact s x z
    ·rw[ud.1 z];exact u) (nY.2 ⟨o,by simp,fun a B b C e=>by rw[ud.1 C] at e;exact A (e ▸ B)⟩) (fun x j=>by
    rcases zW.1 j with z|z
    ·exact y x z
    ·rw[ud.1 z];exact w)
   refine⟨p,fun f=>(r f).trans ⟨fun h=>?_,fun h=>?_⟩⟩
   ·rcases h with h|⟨c,i⟩
    ·rcases zW.1 h with z|z
     ·exact zf z
     ·rw[ud.1 z];exact ze ⟨by simp,w⟩
    ·exact ze ⟨by simp[c],i⟩
   ·rcases h with h|⟨c,i⟩
    ·exact zf (List.mem_append_left _ h)
    ·rcases zw.1 c with rfl|c
     ·exact zf (by simp)
     ·exact ze ⟨c,i⟩
def xw(fs:List z7)(k:Nat)(a:List zc)(l:List z7):List z7:=a.foldl (fun l c=>(ye fs c.head c.body c.body []).foldl (fun l r=>ue fs l (c.head.pred,r,k)) l) l
theorem CC(fs:List z7)(k:Nat):∀(a:List zc) (l:List z7),xw fs k a l=(a.flatMap fun c=>(ye fs c.head c.body c.body []).map fun r=>(c.head.pred,r,k)).foldl (ue fs) l
 |[],l=>rfl
 |c::a,l=>by
  rw[us,ju,List.foldl_map,←CC fs k a];rfl
def yk(t:List zg)(cs:List zc)(s:Nat):List zc:=cs.filter fun c=>decide (xz t c.head.pred=s/\0<c.body.length)
theorem PO.round{t0:List zg}(A:Pt cs t0 t)(o:xJ cs t){D:DB}(h:PO t (zp cs) L D)(s k:Nat):PO t (zp cs) (L++xw L k (yk t cs s) []) (zyf ((uJ t (zp cs) none cs).filter fun r=>decide (r.qh=s)) k D)/\(xw L k (yk t cs s) []=[]↔∀p x,Pj (zyf ((uJ t (zp cs) none cs).filter fun r=>decide (r.qh=s)) k D) p x->Pj D p x):=by
 have u:∀i (hi:i<cs.length),f8 (xb ((vA none i).getD [])) (zy cs[i]).length:=fun i hi=>tw (lY (A.many _ (zu hi)));have R:=Gp A (zp cs) none u s D;generalize (uJ t (zp cs) none cs).filter (fun r=>decide (r.qh=s))=P at *;have T:=(gG cs).1;obtain⟨n1,X⟩:(xw L k (yk t cs s) []).Nodup/\∀f,f∈xw L k (yk t cs s) []↔(∃c∈cs,xz t c.head.pred=s/\0<c.body.length/\∃x,nT L c x/\f=(c.head.pred,x,k))/\¬∃m,(f.1,f.2.1,m)∈L:=by
  rw[CC];obtain⟨i1,i2⟩:=sa (fs:=L) (k:=k) ((yk t cs s).flatMap fun c=>(ye L c.head c.body c.body []).map fun r=>(c.head.pred,r,k)) [] (fun g F=>by
   obtain⟨c,_,F⟩:=uX.1 F;obtain⟨r,_,rfl⟩:=zB.1 F;rfl) (fun g F=>by cases F) List.nodup_nil (fun g F=>by cases F)
  refine⟨i1,fun f=>(i2 f).trans ?_⟩;simp only[lB,false_or];refine and_congr_left fun _=>?_;rw[uX];constructor
  ·rintro⟨c,n,B⟩;obtain⟨H,G⟩:=xY.1 n;obtain⟨r,O,rfl⟩:=zB.1 B;have G:=of_decide_eq_true G;exact⟨c,H,G.1,G.2,r,(Dp (h.fs o) H (o.ne H) (o.cov c H)).1 O,rfl⟩
  ·rintro⟨c,n,H,G,r,O,rfl⟩;exact⟨c,xY.2 ⟨n,decide_eq_true ⟨H,G⟩⟩,zB.2 ⟨r,(Dp (h.fs o) n (o.ne n) (o.cov c n)).2 O,rfl⟩⟩
 generalize xw L k (yk t cs s) []=l at *;have q:∀p r,gN P D p r->∃c∈cs,xz t c.head.pred=s/\0<c.body.length/\p=zF t c.head.pred/\nT L c (x6 (zp cs) r (xI t p) 3)/\gK t p=c.head.pred/\p<t.length/\Pp (xI t p) r/\∀i,i<xI t p->r.getD i 0<(zp cs).length:=by
  intro p r j;obtain⟨c,n,E,N,rfl,S⟩:=(R p r).1 j;obtain⟨Y,M,V,l4⟩:=o.lit c n c.head (by simp[zm]);obtain⟨d1,d2,d3⟩:=h.der1 o n S;exact⟨c,n,N,E,rfl,by rw[M];exact d1,V,Y,by rw[M];exact d2,by rw[M];exact d3⟩
 have y:∀p r,D p r=none->gN P D p r->(gK t p,x6 (zp cs) r (xI t p) 3,k)∈l:=by
  intro p r d j;obtain⟨c,n,N,E,aa,S,Z,u,J,K⟩:=q p r j;refine(X _).2 ⟨⟨c,n,N,E,_,S,by rw[Z]⟩,fun⟨m,hm⟩=>?_⟩;obtain⟨p',U,I,m',Q,e⟩:=(h.mem _).1 hm;simp only[yo] at e;have:p=p':=by rw[←(kW o.rise u).1,←(kW o.rise U).1,e.1]
  subst this;have hI:Pj D p I:=by unfold Pj;rw[Q];rfl
  have e1:=lM T (o.small p u) J K;have e2:=lM T (o.small p u) (h.ok p I hI).2 (h.inside p I hI);rw[e.2.1] at e1;change uq (zp cs) (x6 (zp cs) I (xI t p) 3) 0 [0,0,0]=some I at e2;rw[e1,zs] at e2;rw[e2,Q] at d;cases d
 have w:∀f∈l,∃p,p<t.length/\∃r,D p r=none/\gN P D p r/\f=(gK t p,x6 (zp cs) r (xI t p) 3,k):=by
  intro f B;obtain⟨⟨c,n,N,E,x,S,rfl⟩,W⟩:=(X f).1 B;obtain⟨r,O,rfl⟩:=h.der2 o n S;have hh:c.head∈zm c:=by simp[zm]
  obtain⟨Y,M,V,l4⟩:=o.lit c n c.head hh;refine⟨zF t c.head.pred,Y,r,?_,(R _ r).2 ⟨c,n,E,N,rfl,O⟩,by rw[M,V]⟩;cases d:D (zF t c.head.pred) r with
  |none=>rfl
  |some m=>exact zC ⟨m,(h.lit o n hh _ m).2 ⟨r,d,rfl⟩⟩ W
 have C:∀p r,Pj (zyf P k D) p r->Pj D p r∨(D p r=none/\gN P D p r):=by
  intro p r j;unfold Pj zyf at j;cases d:D p r with
  |some m=>exact zf (by unfold Pj;rw[d];rfl)
  |none=>
   rw[d] at j;simp only at j;split at j
   ·rename_i z;exact ze ⟨rfl,z⟩
   ·cases j
 refine⟨⟨fun f=>?_,nY.2 ⟨h.once,n1,fun a ha b E e=>?_⟩,fun p r j=>?_,fun p r j=>?_⟩,fun e p r j=>?_,fun e=>?_⟩
 ·rw[zW];constructor
  ·rintro(B|B)
   ·obtain⟨p,A,r,m,d,rfl⟩:=(h.mem f).1 B;exact⟨p,A,r,m,La d,rfl⟩
   ·obtain⟨p,A,r,d,j,rfl⟩:=w f B;refine⟨p,A,r,k,?_,rfl⟩;unfold zyf;rw[d];exact zb j
  ·rintro⟨p,A,r,m,d,rfl⟩;unfold zyf at d;cases v:D p r with
   |some m'=>
    rw[v] at d;cases d;exact zf ((h.mem _).2 ⟨p,A,r,m,v,rfl⟩)
   |none=>
    rw[v] at d;simp only at d;split at d
    ·rename_i z;cases d;exact ze (y p r v z)
    ·cases d
 ·subst e;exact((X a).1 E).2 ⟨a.2.2,ha⟩
 ·rcases C p r j with z|⟨_,z⟩
  ·exact h.ok p r z
  ·obtain⟨c,_,_,_,_,_,_,q1,q2,_⟩:=q p r z;exact⟨by simpa using q1,q2⟩
 ·rcases C p r j with z|⟨_,z⟩
  ·exact h.inside p r z
  ·obtain⟨c,_,_,_,_,_,_,q1,q2,q3⟩:=q p r z;exact q3
 ·rcases C p r j with z|⟨z1,z2⟩
  ·exact z
  ·have:=y p r z1 z2;rw[e] at this;cases this
 ·cases l with
  |nil=>rfl
  |cons f l=>
   obtain⟨p,_,r,d,j,_⟩:=w f (by simp);have:=e p r (D1 p r j);unfold Pj at this;rw[d] at this;cases this
theorem PO.card(o:xJ cs t){D:DB}(h:PO t (zp cs) L D):fP D L.length:=by
 have u:=(gG cs).1;have d:=fun p r (i:Pj D p r)=>lM u (o.small p (by have:=(h.ok p r i).1;simpa using this)) (h.ok p r i).2 (h.inside p r i);have c:∀f∈L,∃p r m,D p r=some m/\f=(gK t p,x6 (zp cs) r (xI t p) 3,m)/\(zF t f.1,(uq (zp cs) f.2.1 0 [0,0,0]).getD [])=(p,r):=by
  intro f s;obtain⟨p,n,r,m,l,rfl⟩:=(h.mem f).1 s;exact⟨p,r,m,l,rfl,by rw[(kW o.rise n).1,d p r (by unfold Pj;rw[l];rfl)];rfl⟩
 refine⟨L.map fun f=>(zF t f.1,(uq (zp cs) f.2.1 0 [0,0,0]).getD []),?_,fun p x=>?_,by simp⟩
 ·rw[mL,mJ];have:=h.once;rw[mL] at this;refine this.imp_of_mem fun{a b} w C q e=>q ?_;obtain⟨p,r,m,l,B,E⟩:=c a w;obtain⟨z,v,y,j,k,g⟩:=c b C;rw[E,g] at e;cases e;rw[j] at l;cases l;rw[B,k]
 ·rw[zB];constructor
  ·rintro⟨f,s,e⟩;obtain⟨z,v,y,j,k,g⟩:=c f s;rw[g] at e;cases e;unfold Pj;rw[j];rfl
  ·intro i;obtain⟨m,A⟩:=mi.1 i;have n:p<t.length:=by have:=(h.ok p x i).1;simpa using this
   refine⟨_,(h.mem _).2 ⟨p,n,x,m,A,rfl⟩,?_⟩;rw[(kW o.rise n).1,d p x i];rfl
theorem PO.small(a:xJ cs t){D:DB}(h:PO t (zp cs) L D)(mr:Nat):nf D mr↔L.length<=mr:=
 ⟨fun⟨n,c,b⟩=>by rw[←E4 b (h.card a)];exact c,fun q=>⟨_,q,h.card a⟩⟩
end
section
variable {t:List zg}{cs:List zc}
noncomputable def z0a(t:List zg)(cs:List zc)(mr s:Nat):Nat->Nat->List z7->Option (List z7×Nat)
 |0,_,_=>none
 |left+1,k,L=>
  if (L++xw L (k+1) (yk t cs s) []).length<=mr then
   if xw L (k+1) (yk t cs s) []=[] then some (L++xw L (k+1) (yk t cs s) [],k+1)
   else z0a t cs mr s left (k+1) (L++xw L (k+1) (yk t cs s) [])
  else none
noncomputable def zyh(t:List zg)(cs:List zc)(mr mx:Nat):Nat->Nat->Nat->List z7->Option (List z7×Nat)
 |0,_,k,L=>some (L,k)
 |n+1,s,k,L=>
  if yk t cs s=[] then zyh t cs mr mx n (s+1) k L
  else match z0a t cs mr s (mx-k) k L with
   |none=>none
   |some (L',k')=>zyh t cs mr mx n (s+1) k' L'
def x9(cs:List zc):List z7:=((cs.filter fun c=>decide (c.body.length=0)).map fun c=>(c.head.pred,c.head.args,0)).foldl (ue []) []
noncomputable def yjq(t:List zg)(cs:List zc)(mr mx:Nat):Option (List z7×Nat):=if (x9 cs).length<=mr then zyh t cs mr mx t.length 0 0 (x9 cs) else none
def ea(t:List zg)(ns:List ByteArray):Option (List z7×Nat)->Option (DB×Nat)->Prop
 |none,none=>True
 |some (L,k),some (D,e)=>k=e/\PO t ns L D
 |_,_=>False
theorem oW{cs:List zc}{f t:List zg}(c:Pt cs f t)(a:xJ cs t)(mr s:Nat):∀(left k:Nat) (L:List z7) (D:DB),PO t (zp cs) L D->ea t (zp cs) (z0a t cs mr s left k L) (zxx ((uJ t (zp cs) none cs).filter fun r=>decide (r.qh=s)) mr left k D)
 |0,k,L,D,h=>trivial
 |left+1,k,L,D,h=>by
  obtain⟨b,d⟩:=h.round c a s (k+1);have e:=b.small a mr;unfold z0a zxx;by_cases q:(L++xw L (k+1) (yk t cs s) []).length<=mr
  ·rw[zb q,zb (e.2 q)];by_cases z:xw L (k+1) (yk t cs s) []=[]
   ·rw[zb z,zb (d.1 z)];exact⟨rfl,b⟩
   ·rw[za z,za fun y=>z (d.2 y)];exact oW c a mr s left (k+1) _ _ b
  ·rw[za q,za fun y=>q (e.1 y)];trivial
theorem Br{s:Nat}:yk t cs s=[]↔¬∃c∈cs,0<c.body.length/\xz t c.head.pred=s:=by
 unfold yk;rw[List.filter_eq_nil_iff];exact⟨fun h ⟨c,a,d,b⟩=>h c a (decide_eq_true ⟨b,d⟩),fun h c a q=>h ⟨c,a,(of_decide_eq_true q).2,(of_decide_eq_true q).1⟩⟩
theorem il{cs:List zc}{j t:List zg}(c:Pt cs j t)(d:xJ cs t)(mr mx:Nat):∀(n s k:Nat) (L:List z7) (D:DB),PO t (zp cs) L D->ea t (zp cs) (zyh t cs mr mx n s k L) (zx8 (uJ t (zp cs) none cs) mr mx n s k D)
 |0,s,k,L,D,h=>⟨rfl,h⟩
 |n+1,s,k,L,D,h=>by
  unfold zyh zx8;by_cases q:yk t cs s=[]
  ·rw[zb q,zb ((Bg cs s).2 (Br.1 q))];exact il c d mr mx n (s+1) k L D h
  ·rw[za q,za fun z=>q (Br.2 ((Bg cs s).1 z))];have a:=oW c d mr s (mx-k) k L D h;cases e:z0a t cs mr s (mx-k) k L with
   |none=>
    cases b:zxx ((uJ t (zp cs) none cs).filter fun r=>decide (r.qh=s)) mr (mx-k) k D with
    |none=>trivial
    |some y=>rw[e,b] at a;exact a.elim
   |some x=>
    cases b:zxx ((uJ t (zp cs) none cs).filter fun r=>decide (r.qh=s)) mr (mx-k) k D with
    |none=>rw[e,b] at a;exact a.elim
    |some y=>
     rw[e,b] at a;obtain⟨i,f⟩:=x;obtain⟨g,l⟩:=y;obtain⟨rfl,a⟩:=a;exact il c d mr mx n (s+1) f i g a
theorem rN(g:xJ cs t){c:zc}(f:c∈cs)(n:c.body.length=0):x6 (zp cs) (vF t (zp cs) c).row c.head.args.length 3=c.head.args/\Pp c.head.args.length (vF t (zp cs) c).row/\∀i,i<c.head.args.length->(vF t (zp cs) c).row.getD i 0<(zp cs).length:=by
 have b:c.head∈zm c:=by simp[zm]
 have j:∀k,([0,0,0,0,0]:List Nat).getD k 0<5:=by
  intro k;rcases k with _|_|_|_|_|k<;>simp
 have h:=mw.1 n;have e:∀v,v∉zy c:=by
  intro v d;rw[gJ,h] at d;obtain⟨_,l,o,_⟩:=d;cases o
 unfold vF;rw[pF t (zp cs) [] j];refine⟨?_,g.can f (fun v d=>zC d (e v)) c.head b⟩;rw[tt f b (g.lit c f c.head b).2.2.2];unfold P8;conv=>rhs;rw[←List.map_id c.head.args]
 refine kf fun a m=>?_;rw[za fun d=>e a (g.cov c f c.head b a m d)];rfl
theorem BF(d:xJ cs t):PO t (zp cs) (x9 cs) (zzb (vy t (zp cs) cs)):=by
 have w:∀p x,zzb (vy t (zp cs) cs) p x=if ∃c∈cs,c.body.length=0/\p=zF t c.head.pred/\(vF t (zp cs) c).row=x then some 0 else none:=by
  intro p x;unfold zzb;congr 1;apply propext;unfold vy;simp only[zB,xY];constructor
  ·rintro⟨f,⟨c,⟨a,b⟩,rfl⟩,v,u⟩;exact⟨c,a,by simpa using b,v.symm,u⟩
  ·rintro⟨c,a,b,v,u⟩;exact⟨_,⟨c,⟨a,by simp[b]⟩,rfl⟩,v.symm,u⟩
 have e:∀p x,Pj (zzb (vy t (zp cs) cs)) p x->∃c∈cs,c.body.length=0/\p=zF t c.head.pred/\(vF t (zp cs) c).row=x:=by
  intro p x h;unfold Pj at h;rw[w] at h;split at h
  ·assumption
  ·cases h
 obtain⟨y,A⟩:=sa (fs:=[]) (k:=0) ((cs.filter fun c:zc=>decide (c.body.length=0)).map fun c:zc=>((c.head.pred,c.head.args,0):z7)) [] (fun g n=>by
  obtain⟨c,_,rfl⟩:=zB.1 n;rfl) (fun g n=>by cases n) List.nodup_nil (fun g n=>by cases n)
 refine⟨fun f=>(A f).trans ?_,y,fun p x h=>?_,fun p x h=>?_⟩
 ·simp only[lB,false_or,exists_false,not_false_eq_true,and_true,zB,xY,decide_eq_true_eq];constructor
  ·rintro⟨c,⟨a,b⟩,rfl⟩;obtain⟨o,j,l,q⟩:=d.lit c a c.head (by simp[zm]);exact⟨_,o,(vF t (zp cs) c).row,0,by rw[w];exact zb ⟨c,a,b,rfl,rfl⟩,by rw[j,l,(rN d a b).1]⟩
  ·rintro⟨p,B,r,m,s,rfl⟩;have z:Pj (zzb (vy t (zp cs) cs)) p r:=by unfold Pj;rw[s];rfl
   obtain⟨c,a,b,rfl,rfl⟩:=e p r z;rw[w,zb ⟨c,a,b,rfl,rfl⟩] at s;cases s;obtain⟨o,j,l,q⟩:=d.lit c a c.head (by simp[zm]);exact⟨c,⟨a,b⟩,by rw[j,l,(rN d a b).1]⟩
 ·obtain⟨c,a,b,rfl,rfl⟩:=e p x h;obtain⟨o,j,l,q⟩:=d.lit c a c.head (by simp[zm]);refine⟨by simpa using o,?_⟩;change Pp (xI t _) _;rw[j];exact(rN d a b).2.1
 ·obtain⟨c,a,b,rfl,rfl⟩:=e p x h;obtain⟨o,j,l,q⟩:=d.lit c a c.head (by simp[zm]);change ∀i,i<xI t _->_;rw[j];exact(rN d a b).2.2
theorem NB{f:List zg}(d:Pt cs f t)(a:xJ cs t)(mr mx:Nat):ea t (zp cs) (yjq t cs mr mx) (z0c (qF t (zp cs) none cs) mr mx):=by
 have h:=BF a;have c:=h.small a mr;unfold yjq z0c;have e:(qF t (zp cs) none cs).qj.length=t.length:=by simp[qF]
 rw[e];by_cases q:(x9 cs).length<=mr
 ·rw[zb q];have b:nf (zzb (qF t (zp cs) none cs).facts) mr:=c.2 q;rw[zb b];exact il d a mr mx _ 0 0 _ _ h
 ·rw[za q];have b:¬nf (zzb (qF t (zp cs) none cs).facts) mr:=fun y=>q (c.1 y);rw[za b];trivial
theorem MU{ns ts:List ByteArray}{r:zk}(h:uq ns ts 0 [0,0,0]=some r):Pp ts.length r/\x6 ns r ts.length 3=ts:=by
 match ts,h with
 |[],h=>
  simp only[uq,zs] at h;subst h;exact⟨⟨rfl,fun i _=>by rcases i with _|_|_|i<;>rfl⟩,rfl⟩
 |[a],h=>
  simp only[uq] at h;cases e:yT ns a with
  |none=>rw[e] at h;cases h
  |some x=>
   have j:=(mR e).2;simp[e] at h;subst h;refine⟨⟨rfl,fun i g=>?_⟩,by simpa [x6] using j⟩;rcases i with _|_|_|i
   ·simp at g
   all_goals rfl
 |[a,b],h=>
  simp only[uq] at h;cases e:yT ns a with
  |none=>rw[e] at h;cases h
  |some x=>
   cases f:yT ns b with
   |none=>simp[e,f] at h
   |some y=>
    have j:=(mR e).2;have l:=(mR f).2;simp[e,f] at h;subst h;refine⟨⟨rfl,fun i g=>?_⟩,by simpa [x6,List.range_succ] using⟨j,l⟩⟩;rcases i with _|_|_|i
    ·simp at g
    ·simp at g
    all_goals rfl
 |[a,b,c],h=>
  simp only[uq] at h;cases e:yT ns a with
  |none=>rw[e] at h;cases h
  |some x=>
   cases f:yT ns b with
   |none=>simp[e,f] at h
   |some y=>
    cases k:yT ns c with
    |none=>simp[e,f,k] at h
    |some z=>
     have j:=(mR e).2;have l:=(mR f).2;have m:=(mR k).2;simp[e,f,k] at h;subst h;refine⟨⟨rfl,fun i g=>?_⟩,by simpa [x6,List.range_succ] using⟨j,l,m⟩⟩;rcases i with _|_|_|i
     ·simp at g
     ·simp at g
     ·simp at g
     ·rfl
 |a::b::c::d::ts,h=>
  exfalso;simp only[uq] at h;repeat' split at h
  all_goals first|(cases h;done)|(simp at *;done)
theorem Ff(i:xJ cs t){L:List z7}{R:zx}(D:Qr t (zp cs) R)(h:PO t (zp cs) L (zxy (t.map (·.jf)) R))(a:ByteArray)(row:List ByteArray):mK t (zp cs) R a row=if (zY t a).isSome=true then(match yC a row L with|none=>(0,12)|some k=>(((L[k]?).map (·.2.2)).getD 0,0)) else(0,11):=by
 unfold mK;cases q:zY t a with
 |none=>rfl
 |some e=>
  obtain⟨y,C,B⟩:=qI q;have c:zF t a=zP t a:=by unfold zF;rw[q];rfl
  have b:zF t a<t.length:=by rw[c];exact y
  have o:gK t (zF t a)=a:=by
   have:t[zF t a]=e:=by simp only[c,C]
   rw[(kW i.rise b).2,this,B]
  rw[za (by rintro(z|z);cases z;have:=D.len;omega),zb (show(some e).isSome=true from rfl)];cases s:yC a row L with
  |some k=>
   obtain⟨v,n,j⟩:=tO s;obtain⟨p,A,r,m,f,e⟩:=(h.mem _).1 (zu v);simp only;rw[yq v];rw[e] at n j ⊢;simp only at n j;have:zF t a=p:=by rw[←n];exact(kW i.rise A).1
   subst this;have u:Pj (zxy (t.map (·.jf)) R) (zF t a) r:=by unfold Pj;rw[f];rfl
   obtain⟨g,d⟩:=h.ok _ _ u;rw[←j,za (by rw[nX];simp),lM (gG cs).1 (i.small _ b) d (h.inside _ _ u)];simp only;unfold zxy at f;rw[zb ⟨g,d⟩] at f;rw[f];rfl
  |none=>
   simp only;split
   ·rfl
   ·rename_i l;split
    ·rfl
    ·rename_i r x;obtain⟨g,d⟩:=MU x;have l:row.length=xI t (zF t a):=by simpa using l
     rw[l] at g d;cases w:xB (R.rows.getD (zF t a) zi.zero) r with
     |none=>rfl
     |some m=>
      refine zC ((h.mem _).2 ⟨zF t a,b,r,m,?_,rfl⟩) (by rw[o,d];exact wW s m);unfold zxy;rw[zb ⟨by simpa using b,g⟩];exact w
end
section
variable {cs:List zc}{t:List zg}{r r2:List Pd}
theorem ev{α β:Type}(f:α->List β)(m:Nat):∀(l:List α),(∀x∈l,(f x).length=m)->(l.flatMap f).length=l.length*m
 |[],_=>by simp
 |a::l,h=>by
  rw[us,yz,ev f m l (fun x b=>h x (by simp[b])),h a (by simp),yZ,Nat.succ_mul];omega
def mn{α:Type}(ns:List α):Nat->List (List α)
 |0=>[[]]
 |k+1=>ns.flatMap fun x=>(mn ns k).map (x::·)
theorem ew{α:Type}(ns:List α):∀k,(mn ns k).length=ns.length ^ k
 |0=>rfl
 |k+1=>by
  unfold mn;rw[ev _ (ns.length ^ k) ns (fun x _=>by rw[uH];exact ew ns k),Nat.pow_succ,Nat.mul_comm]
theorem wV{α:Type}{ns:List α}:∀(l:List α),(∀x∈l,x∈ns)->l∈mn ns l.length
 |[],_=>by simp[mn]
 |x::l,h=>by
  rw[yZ];unfold mn;exact uX.2 ⟨x,h x (by simp),zB.2 ⟨l,wV l (fun y a=>h y (by simp[a])),rfl⟩⟩
theorem MT(a:xJ cs t){L:List z7}{D:DB}(h:PO t (zp cs) L D):L.length<=t.length*((zp cs).length+1) ^ 3:=by
 obtain⟨l,k,f,o⟩:=h.card a;rw[←o];have j:(((List.range t.length).flatMap fun p=>(mn (List.range ((zp cs).length+1)) 3).map fun r=>(p,r))).length=t.length*((zp cs).length+1) ^ 3:=by
  rw[ev _ (((zp cs).length+1) ^ 3) _ (fun x _=>by rw[uH,ew,List.length_range]),List.length_range]
 rw[←j];refine pU k fun x b=>?_;obtain⟨p,r⟩:=x;have d:=(f p r).1 b;obtain⟨n,e⟩:=h.ok p r d;have m:=h.inside p r d;refine uX.2 ⟨p,kG.2 (by simpa using n),zB.2 ⟨r,?_,rfl⟩⟩;have:=wV (ns:=List.range ((zp cs).length+1)) r (fun x a=>?_)
 ·rw[e.1] at this;exact this
 ·obtain⟨i,c,rfl⟩:=kX.1 a;rw[kG];by_cases g:i<(t.map (·.jf)).getD p 0
  ·have:=m i g;rw[List.getD,yq c,uo] at this;omega
  ·have:=e.2 i (by omega);rw[List.getD,yq c,uo] at this;omega
def vK(fs:List z7):List zj->y6->List y6
 |[],B=>[B]
 |l::rest,B=>if l.neg=true then vK fs rest B else fs.flatMap fun f=>if f.1=l.pred then(match xn B l.args f.2.1 with|none=>[]|some a=>vK fs rest a) else []
theorem iP(fs:List z7)(h:zj)(body:List zj):∀(rest:List zj) (B:y6),(ye fs h body rest B).length<=(vK fs rest B).length
 |[],B=>by
  unfold ye vK;split<;>simp
 |l::rest,B=>by
  unfold ye vK;split
  ·exact iP fs h body rest B
  ·have:∀a:List z7,(a.flatMap fun f=>if f.1=l.pred then(match xn B l.args f.2.1 with|none=>[]|some b=>ye fs h body rest b) else []).length<=(a.flatMap fun f=>if f.1=l.pred then(match xn B l.args f.2.1 with|none=>[]|some b=>vK fs rest b) else []).length:=by
    intro a;induction a with
    |nil=>simp
    |cons g a c=>
     rw[us,us,yz,yz];refine Nat.add_le_add ?_ c;split
     ·split
      ·exact zh _
      ·exact iP fs h body rest _
     ·exact zh _
   exact this fs
def gW(body:List zj)(B:y6):List (List ByteArray):=body.map fun l=>if l.neg=true then [] else yB B l.args
theorem em{cs:List zc}{fs:List z7}(O:re cs fs){c:zc}(U:c∈cs)(E:∀l∈zm c,∀a∈l.args,a≠ByteArray.empty)(S:∀f∈fs,∀g∈fs,f.1=g.1->f.2.1=g.2.1->f=g)(T:fs.Nodup):∀(rest done:List zj) (B:y6),c.body=done++rest->vG B->(∀l∈done,l.neg=false->∀a∈l.args,yc B a≠ByteArray.empty)->(∀k∈vK fs rest B,vG k/\QJ B k/\∀l∈rest,l.neg=false->(∃m,(l.pred,yB k l.args,m)∈fs)/\∀a∈l.args,yc k a≠ByteArray.empty)/\((vK fs rest B).map (gW rest)).Nodup
 |[],done,B,e,P,R=>by
  unfold vK;refine⟨fun k d=>?_,by simp⟩;rw[ud.1 d];exact⟨P,fun v x q=>q,fun l hl=>by cases hl⟩
 |l::rest,done,B,e,P,R=>by
  have e2:c.body=(done++[l])++rest:=by rw[e];simp
  have N:l∈zm c:=by simp[zm,e]
  unfold vK;split
  ·rename_i i;obtain⟨K,Q⟩:=em O U E S T rest (done++[l]) B e2 P (fun w p j=>by
    rcases zW.1 p with q|q
    ·exact R w q j
    ·rw[ud.1 q,i] at j;cases j)
   refine⟨fun k d=>⟨(K k d).1,(K k d).2.1,fun w p j=>?_⟩,?_⟩
   ·rcases zw.1 p with rfl|q
    ·rw[i] at j;cases j
    ·exact(K k d).2.2 w q j
   ·have:(vK fs rest B).map (gW (l::rest))=((vK fs rest B).map (gW rest)).map ([]::·):=by
     rw[List.map_map];refine kf fun k _=>?_;simp[gW,i]
    rw[this,mL,mJ];rw[mL] at Q;exact Q.imp fun h q=>h (by simpa using q)
  ·rename_i i;have i:l.neg=false:=by simpa using i
   have n:∀f∈fs,f.1=l.pred->∀o,xn B l.args f.2.1=some o->(∀k∈vK fs rest o,vG k/\QJ B k/\yB k l.args=f.2.1/\(∀a∈l.args,yc k a≠ByteArray.empty)/\∀w∈rest,w.neg=false->(∃m,(w.pred,yB k w.args,m)∈fs)/\∀a∈w.args,yc k a≠ByteArray.empty)/\((vK fs rest o).map (gW rest)).Nodup:=by
    intro f y D o F;obtain⟨j1,j2,j3⟩:=ny l.args f.2.1 B o (O.jf f y c U l N D.symm).symm (O.ne f y) (E l N) P F;have C:∀a∈l.args,yc o a≠ByteArray.empty:=fun a u=>by
     have:yc o a∈yB o l.args:=zB.2 ⟨a,u,rfl⟩;rw[j3] at this;exact O.ne f y _ this
    obtain⟨K,Q⟩:=em O U E S T rest (done++[l]) o e2 j1 (fun w p j a u=>by
     rcases zW.1 p with q|q
     ·rw[m6 j2 (R w q j a u)];exact R w q j a u
     ·rw[ud.1 q] at u;exact C a u)
    refine⟨fun k d=>?_,Q⟩;obtain⟨Z,M,W⟩:=K k d;exact⟨Z,j2.trans M,by rw[←j3];exact kf fun a u=>m6 M (C a u),fun a u=>by rw[m6 M (C a u)];exact C a u,W⟩
   refine⟨fun k d=>?_,?_⟩
   ·obtain⟨f,y,d⟩:=uX.1 d;split at d
    ·rename_i D;split at d
     ·cases d
     ·rename_i o F;obtain⟨Z,M,W,k4,k5⟩:=(n f y D o F).1 k d;refine⟨Z,M,fun w p j=>?_⟩;rcases zw.1 p with rfl|q
      ·exact⟨⟨f.2.2,by rw[W,←D];exact y⟩,k4⟩
      ·exact k5 w q j
    ·cases d
   ·have hg:∀H:List z7,H.Nodup->(∀g∈H,g∈fs)->((H.flatMap fun f=>if f.1=l.pred then(match xn B l.args f.2.1 with|none=>[]|some k=>vK fs rest k) else []).map (gW (l::rest))).Nodup:=by
     intro H;induction H with
     |nil=>intro _ _;simp
     |cons g H ih=>
      intro ab z;obtain⟨aa,Y⟩:=jB.1 ab;rw[us,vB,nY];have G:=z g (by simp);refine⟨?_,ih Y (fun x hx=>z x (by simp[hx])),?_⟩
      ·split
       ·rename_i D;split
        ·simp
        ·rename_i o F;obtain⟨s1,s2⟩:=n g G D o F;have:(vK fs rest o).map (gW (l::rest))=((vK fs rest o).map (gW rest)).map (g.2.1::·):=by
          rw[List.map_map];refine kf fun k d=>?_;simp[gW,i,(s1 k d).2.2.1]
         rw[this,mL,mJ];rw[mL] at s2;exact s2.imp fun h q=>h (by simpa using q)
       ·simp
      ·intro a u b hb J;obtain⟨A,I,rfl⟩:=zB.1 u;obtain⟨A2,s,rfl⟩:=zB.1 hb;obtain⟨f,y,s⟩:=uX.1 s;split at I
       ·rename_i D;split at I
        ·cases I
        ·rename_i o F;split at s
         ·rename_i L;split at s
          ·cases s
          ·rename_i B2 V;have r1:=((n g G D o F).1 A I).2.2.1;have r2:=((n f (z f (by simp[y])) L B2 V).1 A2 s).2.2.1;have:yB A l.args=yB A2 l.args:=by
            simp only[gW,jx,i,lF] at J;simpa using J.1
           have X:=S g G f (z f (by simp[y])) (D.trans L.symm) (by rw[←r1,←r2,this]);exact aa (X ▸ y)
         ·cases s
       ·cases I
    exact hg fs T (fun g hg=>hg)
theorem Nv(d:xJ cs t){L:List z7}{D:DB}(h:PO t (zp cs) L D){c:zc}(s:c∈cs):(ye L c.head c.body c.body []).length<=(zp cs).length ^ (zy c).length:=by
 refine zT (iP L c.head c.body c.body []) ?_;have Y:∀f∈L,∀g∈L,f.1=g.1->f.2.1=g.2.1->f=g:=by
  intro f hf g hg V X;obtain⟨p,O,r,m,w,rfl⟩:=(h.mem f).1 hf;obtain⟨p',F,o,m',z,rfl⟩:=(h.mem g).1 hg;simp only at V X;have:p=p':=by rw[←(kW d.rise O).1,←(kW d.rise F).1,V]
  subst this;have T:Pj D p r:=by unfold Pj;rw[w];rfl
  have S:Pj D p o:=by unfold Pj;rw[z];rfl
  have C:=lM (gG cs).1 (d.small p O) (h.ok p r T).2 (h.inside p r T);have E:=lM (gG cs).1 (d.small p O) (h.ok p o S).2 (h.inside p o S);change uq (zp cs) (x6 (zp cs) r (xI t p) 3) 0 [0,0,0]=some r at C;change uq (zp cs) (x6 (zp cs) o (xI t p) 3) 0 [0,0,0]=some o at E;rw[X,E,zs] at C;subst C;rw[z] at w;cases w;rfl
 obtain⟨h1,U⟩:=em (h.fs d) s (d.ne s) Y h.once c.body [] [] rfl (fun v x q=>by cases q) (fun l n=>by cases n);have u:∀B∈vK L c.body [],∀v∈zy c,yc B v∈zp cs:=by
  intro B I v j;obtain⟨W,l,n,G,K⟩:=gJ.1 j;obtain⟨⟨m,M⟩,_⟩:=(h1 B I).2.2 l n G;have k:l∈zm c:=by simp[zm,n]
  obtain⟨r,w,Z⟩:=(h.lit d s k _ m).1 M;obtain⟨C,E⟩:=h.can d s k (r:=r) (by unfold Pj;rw[w];rfl);have:yc B v∈yB B l.args:=zB.2 ⟨v,K,rfl⟩;rw[Z] at this;simp only[x6,zB,kG] at this;obtain⟨i,hi,e⟩:=this;have h3:=(d.lit c s l k).2.2.2;rw[zb (by omega)] at e;rw[←e];exact eE (E i hi)
 have A:∀R∈vK L c.body [],∀N∈vK L c.body [],(zy c).map (yc R)=(zy c).map (yc N)->gW c.body R=gW c.body N:=by
  intro R _ N _ e;refine kf fun l n=>?_;split
  ·rfl
  ·rename_i G;refine kf fun a J=>?_;by_cases j:zV a=true
   ·have M:=gJ.2 ⟨j,l,n,by simpa using G,J⟩;exact List.map_inj_left.1 e a M
   ·unfold yc;rw[za j,za j]
 have Q:((vK L c.body []).map fun B=>(zy c).map (yc B)).Nodup:=by
  rw[mL,mJ] at U ⊢;exact U.imp_of_mem fun{a b} J hb H e=>H (A a J b hb e)
 have:=pU Q (l2:=mn (zp cs) (zy c).length) (fun x P=>by
  obtain⟨B,I,rfl⟩:=zB.1 P;have:=wV (ns:=zp cs) ((zy c).map (yc B)) (fun y hy=>by
   obtain⟨v,j,rfl⟩:=zB.1 hy;exact u B I v j)
  rw[uH] at this;exact this)
 rw[uH,ew] at this;exact this
theorem JB{g:List zg}(f:Pt cs g t)(a:xJ cs t)(l:t.length<=1000)(i:(zp cs).length<=250):∀L D,PO t (zp cs) L D->L.length<1000000000000/\∀c∈cs,(ye L c.head c.body c.body []).length<=1000000000000:=by
 intro L D h;refine⟨?_,fun c d=>?_⟩
 ·have k:=MT a h;have b:((zp cs).length+1) ^ 3<=251 ^ 3:=Nat.pow_le_pow_left (by omega) 3;have m:=Nat.mul_le_mul l b;have j:(1000*251 ^ 3:Nat)=15813251000:=by decide
  omega
 ·have k:=Nv a h d;have e:=lY (f.many c d);have b:(zp cs).length ^ (zy c).length<=250 ^ (zy c).length:=Nat.pow_le_pow_left i _;have m:250 ^ (zy c).length<=250 ^ 5:=Nat.pow_le_pow_right (by omega) e;have j:(250 ^ 5:Nat)=976562500000:=by decide
  omega
def lC(l:zj):Nat:=2*l.args.length+1
def ma(a:List zj):Nat:=a.foldr (fun l n=>lC l+n) 0
def QY(c:zc):Nat:=lC c.head+ma c.body
def QV(cs:List zc):Nat:=cs.foldr (fun c n=>QY c+n) 0
theorem AL:∀(r:List Pd) {ts:List ByteArray} {r2:List Pd},yd r=some (ts,r2)->2*ts.length+r2.length<=r.length+1
 |[],_,_,h=>by simp[yd] at h
 |[x],ts,r2,h=>by
  simp only[yd] at h;split at h<;>simp at h
  obtain⟨rfl,rfl⟩:=h;simp
 |x::y::r,ts,r2,h=>by
  simp only[yd] at h;split at h
  ·split at h
   ·cases a:yd r with
    |none=>rw[a] at h;simp at h
    |some z=>
     obtain⟨b,c⟩:=z;rw[a] at h;simp at h;have:=AL r a;obtain⟨rfl,rfl⟩:=h;simp;omega
   ·simp at h;obtain⟨rfl,rfl⟩:=h;simp;omega
  ·simp at h
theorem i9{a:zj}(h:yV r=some (a,r2)):lC a+r2.length<=r.length:=by
 cases r with
 |nil=>simp[yV,Pw] at h
 |cons x r=>
  unfold yV at h;split at h
  ·split at h
   ·split at h
    ·simp at h
    ·rename_i e b c;have:=AL _ c;split at h<;>simp at h
     rename_i d;obtain⟨rfl,rfl⟩:=h;cases b with
     |nil=>simp[Pw] at d
     |cons y b=>
      cases r with
      |nil=>simp[yd] at c
      |cons z r=>simp[lC] at this ⊢;omega
   ·simp at h;obtain⟨rfl,rfl⟩:=h;simp[lC];omega
  ·simp at h
theorem Ju{a:zj}(h:uy r=some (a,r2)):lC a+r2.length<=r.length:=by
 unfold uy at h;split at h
 ·cases b:yV r.tail with
  |none=>rw[b] at h;simp at h
  |some z=>
   obtain⟨d,c⟩:=z;rw[b] at h;simp at h;have:=i9 b;obtain⟨rfl,rfl⟩:=h;simp[lC] at this ⊢;omega
 ·exact i9 h
theorem H8{n:Nat}:∀{r r2:List Pd} {b:List zj},xM n r=some (b,r2)->ma b+r2.length<=r.length:=by
 induction n with
 |zero=>intro r r2 b h;simp[xM] at h
 |succ n g=>
  intro r r2 b h;cases c:uy r with
  |none=>rw[pu c] at h;cases h
  |some z=>
   obtain⟨a,e⟩:=z;have:=Ju c;by_cases f:Pw e=6
   ·rw[pe c f] at h;cases d:xM n e.tail with
    |none=>rw[d] at h;simp at h
    |some z=>
     obtain⟨j,i⟩:=z;rw[d] at h;simp at h;have:=g d;obtain⟨rfl,rfl⟩:=h;simp[ma] at this ⊢;omega
   ·rw[pf c f] at h;simp at h;obtain⟨rfl,rfl⟩:=h;simp[ma];omega
theorem F9{n:Nat}{c:zc}(h:uR n r=some (c,r2)):QY c+r2.length<=r.length:=by
 unfold uR at h;split at h
 ·cases h
 ·rename_i a f d;have:=i9 d;split at h
  ·split at h
   ·cases h
   ·rename_i b g e;have:=H8 e;split at h<;>simp at h
    obtain⟨rfl,rfl⟩:=h;simp[QY] at this ⊢;omega
  ·split at h<;>simp at h
   obtain⟨rfl,rfl⟩:=h;simp[QY,ma];omega
theorem BJ{b:Nat}:∀{m:Nat} {r:List Pd} {cs:List zc},yH b m r=some cs->QV cs<=r.length
 |_,[],cs,h=>by simp[yH] at h;subst h;simp[QV]
 |0,_::_,cs,h=>by simp[yH] at h
 |m+1,x::r,cs,h=>by
  cases d:uR b (x::r) with
  |none=>rw[rY (by simp) d] at h;cases h
  |some z=>
   obtain⟨c,r2⟩:=z;rw[po (by simp) d] at h;cases a:yH b m r2 with
   |none=>rw[a] at h;simp at h
   |some g=>
    rw[a] at h;simp at h;subst h;have f:=F9 d;have e:=BJ a;simp only[QV,List.foldr_cons,yZ] at f e ⊢;omega
theorem BR:∀(b:List zj),2*jE b<=ma b
 |[]=>by simp[jE,ma]
 |a::b=>by have:=BR b;simp[jE,ma,lC,jo] at this ⊢;omega
theorem Cm:∀(cs:List zc),2*kZ cs<=QV cs
 |[]=>by simp[kZ,QV]
 |c::cs=>by have:=Cm cs;have:=BR c.body;simp[kZ,QV,QY,lC,jo] at *;omega
theorem Kn{s:ByteArray}(h:uu s=.ok (cs,t)):(zp cs).length<=250:=by
 have d:QV cs<=500:=by
  unfold uu at h;split at h
  ·cases h
  ·split at h
   ·cases h
   ·rename_i i f;split at h
    ·cases h
    ·rename_i b g;have a:b=cs:=by
      repeat'(split at h)
      all_goals first|(cases h;done)|(simp only[Except.ok.injEq,yo] at h;exact h.1)
     subst a;have c:=BJ g;have e:=sB f;omega
 have c:=tI cs [];have e:=Cm cs;simp only[jH,uL] at c;show(cs.foldl vw []).length<=250;omega
end
end Go.Proofs.YteampbddflhngaaGreat
