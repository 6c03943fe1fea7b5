import Derived.Test.YteampbddflhngaaGreatZ13
namespace Go.Proofs.YteampbddflhngaaGreat
set_option linter.all false
set_option maxRecDepth 100000
set_option maxHeartbeats 4000000
open Go.RowKit
section
open Go.Proofs.Tryz
variable {lo:Nat}{w:World}{jb:Nat}
theorem five{α:Type}{l:List α}(h:l.length=5):∃a b c d e,l=[a,b,c,d,e]:=by
 match l,h with
 |[a,b,c,d,e],_=>exact⟨a,b,c,d,e,rfl⟩
abbrev V4:=Value×Value×Value×Value
def dT(t:V4):List Value:=[t.1,t.2.1,t.2.2.1,t.2.2.2]
def yw(a:List V4):List Value:=a.flatMap dT
theorem tz(b:List V4):(yw b).length=b.length*4:=by
 induction b with
 |nil=>rfl
 |cons a l c=>simp[yw,dT] at c ⊢;omega
theorem rV:∀(a:List V4) (k:Nat) (b:k<a.length),(yw a)[k*4]?=some a[k].1/\(yw a)[k*4+1]?=some a[k].2.1/\(yw a)[k*4+2]?=some a[k].2.2.1/\(yw a)[k*4+3]?=some a[k].2.2.2
 |[],k,b=>by simp at b
 |y::r,0,_=>by simp[yw,dT]
 |y::r,k+1,b=>by
  have:=rV r k (by simpa using b);simp only[yw,uw,dT] at this ⊢;rw[show(k+1)*4=k*4+1+1+1+1 from by omega,show k*4+1+1+1+1+2=k*4+2+1+1+1+1 from by omega,show k*4+1+1+1+1+3=k*4+3+1+1+1+1 from by omega];simpa using this
def dG(s:yK)(t:Nat×List Nat):V4:=(.pointer (some ⟨t.1,0,none⟩),ι (s.qi.getD 0 0:Nat),ι (s.qi.getD 1 0:Nat),ι (s.qi.getD 2 0:Nat))
def gj(b:sV)(t:Value×Nat×List Nat):V4:=(ι b.lit.pred,t.1,ι b.jd,.pointer (some ⟨t.2.1,0,none⟩))
def ki(hs:List (Nat×Nat)):List Value:=hs.flatMap fun h=>[ι (h.1:Nat),ι (h.2:Nat)]
structure xw where
 tv:Value
 sv:Value
 bv:Value
 hvs:List Value
 tbs:List (Nat×List Nat)
 bps:List (Value×Nat×List Nat)
def un(J:z9)(P:xw):List Value:=
 [ι J.head.pred,P.tv,ι J.vars,P.sv,P.bv]++P.hvs++J.jg.map (Value.int .i64)++[ι J.last]++J.ja.map Rj++J.from.map Rj++[ι J.ql,ι J.jf]
structure QU (lo:Nat) (w:World) (jb:Nat) (J:z9) (P:xw):Prop where
 low:lo<=jb
 box:Q6 w jb (un J P).toArray 310
 head:yh lo w P.tv J.head.qg
 qy:w.ownsRow lo 323 4 P.sv J.qy.length (yw (List.zipWith dG J.qy P.tbs))
 slen:P.tbs.length=J.qy.length
 tries:∀k (_:k<J.qy.length) (_:k<P.tbs.length),zY lo w P.tbs[k].1 J.qy[k].rows P.tbs[k].2
 qi:∀s∈J.qy,s.qi.length=3
 bars:w.ownsRow lo 325 4 P.bv J.bars.length (yw (List.zipWith gj J.bars P.bps))
 blen:P.bps.length=J.bars.length
 ji:∀k (_:k<J.bars.length) (_:k<P.bps.length),yh lo w P.bps[k].1 J.bars[k].lit.qg/\zY lo w P.bps[k].2.1 J.bars[k].rows P.bps[k].2.2
 hlen:P.hvs.length=5/\J.je.length=5
 je:∀p (_:p<J.je.length) (_:p<P.hvs.length),w.ownsRow lo 327 2 P.hvs[p] J.je[p].length (ki J.je[p])/\J.je[p].length<=1000/\∀h∈J.je[p],h.1<=1000000/\h.2<=1000000
 jk:J.jg.length=5/\J.ja.length=5/\J.from.length=5
 few:J.qy.length<=1000/\J.bars.length<=1000/\J.vars<=1000000
theorem zY.notin{tb:Nat}{T:zi}{fp:List Nat}(h:zY lo w tb T fp){b:Nat}{c:Array Value}{t:TypeId}(f:Q6 w b c t)(k:t≠229)(l:t≠273)(j:t≠3):b∉fp:=by
 obtain⟨n,m,d,rfl⟩:=h;intro a;simp only[R6,zx,zI] at a;rcases a with a|a|a
 ·subst a;have q:=d.box;unfold Q6 at q f;rw[f] at q;simp at q;exact k q.2
 ·exact uy d.qi f (Ne.symm l) (yt a) rfl
 ·obtain⟨i,g,e|e⟩:=eT a
  ·exact uy (d.leap i (by rw[←d.len];exact g) g) f (Ne.symm j) (b:=b) (by rw[e];rfl) rfl
  ·exact uy (d.down i (by rw[←d.len];exact g) g) f (Ne.symm j) (b:=b) (by rw[e];rfl) rfl
theorem yh.save{w':World}{v:Value}{ts:List zZ}{N:List Nat}(h:yh lo w v ts)(hs:ze N w w')(a:∀b,v.ownBlock=some b->b∉N):yh lo w' v ts:=⟨yT h.own hs a,h.len,h.num⟩
theorem QU.below{w w':World}{jb:Nat}{J:z9}{P:xw}(h:QU lo w jb J P)(c:μ w w'):QU lo w' jb J P:=
 ⟨h.low,h.box.below c,h.head.below c,zB h.qy c,h.slen,fun k a b=>(h.tries k a b).below c,h.qi,zB h.bars c,h.blen,fun k a b=>⟨(h.ji k a b).1.below c,(h.ji k a b).2.below c⟩,h.hlen,fun p a b=>⟨zB (h.je p a b).1 c,(h.je p a b).2⟩,h.jk,h.few⟩
theorem QU.rebox{w':World}{J c:z9}{P:xw}(h:QU lo w jb J P)(hs:ze [jb] w w')(l:Q6 w' jb (un c P).toArray 310)(D:c.head=J.head)(f:c.qy=J.qy)(i:c.bars=J.bars)(m:c.je=J.je)(E:c.vars=J.vars)(x:c.jg.length=5/\c.ja.length=5/\c.from.length=5):QU lo w' jb c P:=by
 have g:∀{z:Nat} {e:TypeId} {y:Nat} {v:Value} {B:Nat} {u:List Value},w.ownsRow z e y v B u->e≠310->∀b,v.ownBlock=some b->b∉[jb]:=fun t C b n j=>uy t h.box C n (by simpa using j);have s:∀{q:Nat} {T:zi} {o:List Nat},zY lo w q T o->zY lo w' q T o:=fun r=>r.save hs (fun b A j=>by simp at j;subst j;exact r.notin h.box (by decide) (by decide) (by decide) A);refine⟨h.low,l,by rw[D];exact h.head.save hs (g h.head.own (by decide)),by rw[f];exact yT h.qy hs (g h.qy (by decide)),by rw[f];exact h.slen,fun k a b=>?_,by rw[f];exact h.qi,by rw[i];exact yT h.bars hs (g h.bars (by decide)),by rw[i];exact h.blen,fun k a b=>?_,by rw[m];exact h.hlen,fun p a b=>?_,x,by rw[f,i,E];exact h.few⟩
 ·have d:k<J.qy.length:=by rw[←f];exact a
  simp only[f];exact s (h.tries k d b)
 ·have d:k<J.bars.length:=by rw[←i];exact a
  simp only[i];exact⟨(h.ji k d b).1.save hs (g (h.ji k d b).1.own (by decide)),s (h.ji k d b).2⟩
 ·have d:p<J.je.length:=by rw[←m];exact a
  simp only[m];exact⟨yT (h.je p d b).1 hs (g (h.je p d b).1 (by decide)),(h.je p d b).2⟩
theorem QU.at{J:z9}{P:xw}(h:QU lo w jb J P):jb<w.heap.size/\(∀o,w.frozen? ⟨jb,o,none⟩=false)/\w.cell? ⟨jb,0,none⟩=some (ι J.head.pred)/\w.cell? ⟨jb,1,none⟩=some P.tv/\w.cell? ⟨jb,2,none⟩=some (ι J.vars)/\w.cell? ⟨jb,3,none⟩=some P.sv/\w.cell? ⟨jb,4,none⟩=some P.bv/\w.cell? ⟨jb,15,none⟩=some (ι J.last)/\w.cell? ⟨jb,26,none⟩=some (ι J.ql)/\w.cell? ⟨jb,27,none⟩=some (ι J.jf):=by
 obtain⟨a,c⟩:=h.box.rules;obtain⟨d,f,b⟩:=h.jk;obtain⟨n,q,s,D,E,j⟩:=five h.hlen.1;obtain⟨z,m,F,v,y,g⟩:=five d;obtain⟨u,A,k,B,l,e⟩:=five f;obtain⟨t,p,r,x,C,i⟩:=five b;refine⟨h.box.lt,c,?_,?_,?_,?_,?_,?_,?_,?_⟩<;>rw[a]<;>simp[un,j,g,e,i]
theorem QU.setMoves{J:z9}{P:xw}(h:QU lo w jb J P)(m:Int):QU lo (w.setCell ⟨jb,27,none⟩ (ι m)) jb {J with jf:=m} P:=by
 obtain⟨c,e,b⟩:=h.jk;refine h.rebox (ze.set _ _ _ _) ?_ rfl rfl rfl rfl rfl h.jk;obtain⟨n,p,r,C,D,i⟩:=five h.hlen.1;obtain⟨y,j,E,u,x,f⟩:=five c;obtain⟨t,z,k,A,l,d⟩:=five e;obtain⟨s,o,q,v,B,g⟩:=five b;have a:=h.box.set 27 (ι m);simpa [un,i,f,d,g] using a
theorem D2(w:World)(jb:Nat)(J:z9)(P:xw)(s l:Nat)(h:QU lo w jb J P):
  Calls prog 231 #[(π jb),.agg #[ι s,ι l]] w fun e j=>e=ε (.bool (vD J (s,l)))/\μ w j:=by
 obtain⟨m,i,_,_,_,o,_⟩:=h.at;obtain⟨p,g,k⟩:=zp h.qy;have b:Hid (vD J (s,l)=(decide (s<J.qy.length)&&decide (l<3))):=rfl;generalize J.qy.length=n at *;by_cases c:s<n
 ·by_cases f:l<3
  ·have a:(s:Int)<(n:Int):=by omega
   have d:(l:Int)<3:=by omega
   go_enter func231,ntmps231;go_wp2;go_quiet (fail)
   go_wp2;go_ret;exact⟨by rw[b.out];simp[c,f],zJ (by go_grown) _⟩
  ·have a:(s:Int)<(n:Int):=by omega
   have d:decide ((l:Int)<3)=false:=decide_eq_false (by omega);go_enter func231,ntmps231;go_wp2;go_quiet (fail)
   go_wp2;go_ret;exact⟨by rw[b.out];simp[c,f],zJ (by go_grown) _⟩
 ·have a:decide ((s:Int)<(n:Int))=false:=decide_eq_false (by omega);go_enter func231,ntmps231;go_wp2;go_quiet (fail)
  go_wp2;go_ret;exact⟨by rw[b.out];simp[c],zJ (by go_grown) _⟩
end
section
open Go.Proofs.Tryz
variable {lo:Nat}
theorem QU.side{w:World}{k:Nat}{J:z9}{P:xw}(h:QU lo w k J P)(s l:Nat)(hs:s<J.qy.length)(r:l<3):
  ∃a b m q,P.sv=.slice (some ⟨a,0,none⟩) J.qy.length b/\a<w.heap.size/\a≠k/\w.cell? ⟨a,s*4,none⟩=some ((π m))/\w.cell? ⟨a,s*4+1+l,none⟩=some (ι ((J.qy[s].qi.getD l 0:Nat):Int))/\zY lo w m J.qy[s].rows q/\(∀o,w.frozen? ⟨a,o,none⟩=false):=by
 obtain⟨a,b,g,_,f,d⟩:=yv h.qy (by omega);have e:s<P.tbs.length:=by rw[h.slen];exact hs
 obtain⟨p,n,j,i⟩:=rV (List.zipWith dG J.qy P.tbs) s (by simp;omega);simp only[List.getElem_zipWith,dG] at p n j i;have c:=h.qy;rw[g] at c;refine⟨a,b,P.tbs[s].1,P.tbs[s].2,g,f,uy h.qy h.box (by decide) (by rw[g];rfl),d _ _ p,?_,h.tries s hs e,qT c⟩;obtain rfl|rfl|rfl:l=0∨l=1∨l=2:=by omega
 ·exact d _ _ n
 ·exact d _ _ j
 ·exact d _ _ i
theorem L6(w:World)(b:Nat)(J:z9)(P:xw)(s l f:Nat)(h:QU lo w b J P):
  Calls prog 229 #[(π b),.agg #[ι s,ι l],ι f] w fun e t=>e=ε (qW (vL J (s,l) f).2)/\QU lo t b (vL J (s,l) f).1 P/\ze [b] w t:=by
 have m:=Q5 fun W U=>D2 W b J P s l (h.below U);have G:=Q5 h;cases d:vD J (s,l) with
 |false=>
  have i:Hid (vL J (s,l) f=(J,none)):=by simp[Hid,vL,d]
  go_enter func229,ntmps229;go_wp2_with (go_at_call 231;refine(m.out _ (by exact(by go_grown))).mono ?_;rintro e j ⟨rfl,c⟩;have a:μ w j:=zQ (by go_grown) c (zg _))
  go_ret2
  exact⟨by rw[i.out];rfl,by rw[i.out];exact G.out.below a,ze.of a⟩
 |true=>
  have A:s<J.qy.length/\l<3:=by simpa [vD] using d
  obtain⟨K,T⟩:=A;have i:Hid (vL J (s,l) f=({J with jf:=IntKind.i64.wrap (J.jf+1)},yz J.qy[s].rows (J.qy[s].qi.getD l 0) f)):=by simp[Hid,vL,d,List.getD_eq_getElem?_getD,K]
  obtain⟨X,_⟩:=h.at;go_enter func229,ntmps229;go_wp2_with (go_at_call 231;refine(m.out _ (by exact(by go_grown))).mono ?_;rintro e j ⟨rfl,c⟩;have a:μ w j:=zQ (by go_grown) c (zg _);have g:=G.out.below a;obtain⟨N,R,_,_,_,Z,_,_,_,L⟩:=g.at;have k:=(Q6.new w #[ι s,ι l] 327).below c;obtain⟨E,B,V⟩:=k.boxed;have C:=Q5 g;clear g)
  have x:IntKind.i64.wrap (J.jf+1)=wrap64 (J.jf+1):=by rw[IntKind.wrap_i64];unfold wrap64;rfl
  rw[x] at i;have r:Hid (QU lo (j.setCell ⟨b,27,none⟩ (ι (wrap64 (J.jf+1)))) b {J with jf:=wrap64 (J.jf+1)} P):=C.out.setMoves _;have u:w.heap.size≠b:=by omega
  have p:=k.set_ne u 27 (ι (wrap64 (J.jf+1)));have y:ze [b] w (j.setCell ⟨b,27,none⟩ (ι (wrap64 (J.jf+1)))):=(ze.of a).trans (ze.set _ _ _ _);generalize j.setCell ⟨b,27,none⟩ (ι (wrap64 (J.jf+1)))=O at *;have o:=r.out;obtain⟨S,Q,_,_,_,ac,_⟩:=o.at;obtain⟨aa,I,q,z,F,H,_,Y,ab,D,_⟩:=o.side s l K T;obtain⟨E,B⟩:=p.rules;have v:Hid (∀n,Calls prog 167 #[(π q),ι ((J.qy[s].qi.getD l 0:Nat):Int),ι f] (O.drewN n) fun e t=>e=ε (.tuple #[ι (((yz J.qy[s].rows (J.qy[s].qi.getD l 0) f).getD 0:Nat):Int),.bool (yz J.qy[s].rows (J.qy[s].qi.getD l 0) f).isSome])/\t=O.drewN n):=fun n=>r9 _ q _ z _ f (D.below (zJ (zo _ _) n));generalize J.qy[s].qi.getD l 0=nd at *;go_quiet ((go_at_call 167;exact Calls.quiet_of_same (v.out _)))
  go_wp2;go_ret2
  exact⟨by rw[i.out];rfl,by rw[i.out];exact r.out.below (zJ (zo _ _) _),y.newer (ze.of (M:=[]) (zJ (zo _ _) _)) (by simp)⟩
theorem ie:∀(hs:List (Nat×Nat)) (k:Nat) (a:k<hs.length),(ki hs)[k*2]?=some (ι (hs[k].1:Nat))/\(ki hs)[k*2+1]?=some (ι (hs[k].2:Nat))
 |[],k,a=>by simp at a
 |p::r,0,_=>by simp[ki]
 |p::r,k+1,a=>by
  have:=ie r k (by simpa using a);simp only[ki,uw] at this ⊢;rw[show(k+1)*2=k*2+1+1 from by omega,show k*2+1+1+1=k*2+1+1+1 from rfl];simpa using this
theorem QU.hold{w:World}{j:Nat}{J:z9}{P:xw}(h:QU lo w j J P)(p:Nat)(m:p<5):∃g b,w.cell? ⟨j,5+p,none⟩=some (.slice g (J.je.getD p []).length b)/\(J.je.getD p []).length<=1000/\∀k (n:k<(J.je.getD p []).length),∃a,g=some ⟨a,0,none⟩/\a<w.heap.size/\a≠j/\w.cell? ⟨a,k*2,none⟩=some (ι ((J.je.getD p [])[k].1:Nat))/\w.cell? ⟨a,k*2+1,none⟩=some (ι ((J.je.getD p [])[k].2:Nat)):=by
 have o:p<J.je.length:=by rw[h.hlen.2];exact m
 have u:p<P.hvs.length:=by rw[h.hlen.1];exact m
 have e:J.je.getD p []=J.je[p]:=by simp[List.getD_eq_getElem?_getD,o]
 rw[e];obtain⟨i,t,_⟩:=h.je p o u;obtain⟨g,b,q⟩:=zp i;obtain⟨s,_⟩:=h.box.rules;refine⟨g,b,?_,t,fun k n=>?_⟩
 ·rw[←q,s];obtain⟨z,A,B,C,D,y⟩:=five h.hlen.1;obtain rfl|rfl|rfl|rfl|rfl:p=0∨p=1∨p=2∨p=3∨p=4:=by omega
  all_goals simp[un,y]
 ·obtain⟨a,r,d,_,l,f⟩:=yv i (by omega);have c:=q.symm.trans d;simp only[Value.slice.injEq] at c;obtain⟨x,v⟩:=ie J.je[p] k n;exact⟨a,c.1,l,uy i h.box (by decide) (by rw[d];rfl),f _ _ x,f _ _ v⟩
theorem K8(J:z9)(h:Nat×Nat)(f:Nat):(vL J h f).1.je=J.je:=by unfold vL;split<;>rfl
theorem KV(w:World)(x:Nat)(J:z9)(P:xw)(p f n:Nat)(O:z9)(r:Option Nat)(h:QU lo w x J P)(C:fh n J p f=some (O,r)):
  Calls prog 227 #[(π x),ι p,ι f] w fun e Y=>e=ε (qW r)/\QU lo Y x O P/\ze [x] w Y:=by
 have HJ:=Q5 h;unfold fh at C;by_cases h5:p≥5
 ·rw[zc (zf h5)] at C;simp only[zt,ya] at C;obtain⟨rfl,rfl⟩:=C;clear h;go_enter func227,ntmps227;go_wp2;go_ret2
  exact⟨rfl,HJ.out,ze.refl _ _⟩
 ·obtain⟨ao,aq,E,S,aa⟩:=h.hold p (by omega);clear aa;obtain⟨am,ak,_⟩:=h.at;by_cases h0:(J.je.getD p []).length=0
  ·rw[zc (zb h0)] at C;simp only[zt,ya] at C;obtain⟨rfl,rfl⟩:=C;clear h;generalize (J.je.getD p []).length=hn at *;subst h0;go_enter func227,ntmps227;go_wp2;go_ret2
   exact⟨rfl,HJ.out,ze.refl _ _⟩
  ·rw[za (by omega)] at C;have HR:=Q5 C;clear C h;have G:(J.je.getD p []).length>0:=by omega
   obtain⟨d,I⟩:∃d,d=J.je.getD p []:=⟨_,rfl⟩;rw[←I] at HR E S G;have R:=Q5 I;clear I;have ai:((d.length:Int) == 0)=false:=beq_eq_false_iff_ne.2 (by omega);go_enter func227,ntmps227;go_wp2;go_loopg [8,9,10] n (fun k v8 v9 ac wr=>∃(y:z9) (at' c a:Nat),v8=ι at'/\v9=ι c/\ac=ι a/\Hid (kx k y d at' c a=some (O,r))/\Hid (QU lo wr x y P)/\Hid (y.je=J.je)/\ze [x] w wr/\c<=d.length/\a<d.length)
   case atStart=>exact⟨J,f,0,0,rfl,rfl,rfl,HR,HJ,rfl,ze.refl _ _,by omega,G⟩
   case round=>
    clear E;obtain⟨y,at',c,a,rfl,rfl,rfl,HQ,K,Q,u,ar,Z⟩:=hrel;have L:=K.out;obtain⟨ag,af,_⟩:=L.at;obtain⟨ap,ae,E,_,s⟩:=L.hold p (by omega);rw[Q.out,←R.out] at E s;obtain⟨hb,ab,al,aj,an,ah⟩:=s a Z;subst ab;clear s L;cases gk with
    |zero=>have q:=HQ.out;simp[kx] at q
    |succ m=>
     have q:=HQ.out;unfold kx at q;by_cases T:c<d.length
     ·rw[zc T] at q;have eg:d.getD a (0,0)=d[a]:=by simp[List.getD_eq_getElem?_getD,Z]
      rw[eg] at q;have o:Hid (Calls prog 229 #[(π x),.agg #[ι (d[a].1:Nat),ι (d[a].2:Nat)],ι at'] wr fun e Y=>e=ε (.tuple #[ι (((vL y d[a] at').2.getD 0:Nat):Int),.bool (vL y d[a] at').2.isSome])/\QU lo Y x (vL y d[a] at').1 P/\ze [x] wr Y):=L6 wr x y P d[a].1 d[a].2 at' K.out;have M:=K8 y d[a] at';generalize ad:vL y d[a] at'=lj at *;clear ad;obtain⟨H,r2⟩:=lj;generalize d[a]=hd at *;simp only at q o M;cases r2 with
      |none=>
       simp only[zt,ya] at q;obtain⟨e1,V⟩:=q;simp only[gE,gD] at o;have U:Hid (O=H/\r=none):=⟨e1.symm,V.symm⟩;clear e1 V;go_wp2_with (go_at_call 229;refine o.out.mono ?_;rintro e F ⟨rfl,b,j⟩;have l:=Q5 b;clear b)
       go_ret2
       exact⟨by rw[U.out.2];rfl,by rw[U.out.1];exact l.out,u.trans j⟩
      |some v=>
       simp only[ur,jV] at o;have i:Hid (kx m H d (if v>at' then v else at') ((if v>at' then 0 else c)+1) (if a+1≥d.length then 0 else a+1)=some (O,r)):=q;have z:=Q5 (M.trans Q.out);have D:Hid (∀W,QU lo W x H P->∃t g,W.cell? ⟨x,5+p,none⟩=some (.slice t d.length g)):=fun W hW=>by
        obtain⟨t,g,q1,_⟩:=hW.hold p (by omega);rw[z.out,←R.out] at q1;exact⟨t,g,q1⟩
       clear q M;by_cases hv:v>at'
       ·rw[zc hv,zc hv] at i;by_cases X:a+1≥d.length
        ·rw[zc X] at i;go_wp2_with (go_at_call 229;refine o.out.mono ?_;rintro e F ⟨rfl,b,j⟩;have l:=Q5 b;obtain⟨t,g,N⟩:=D.out F b;obtain⟨A,B,_⟩:=b.at;clear b)
         go_roundg m
         case measure=>omega
         case rel=>exact⟨H,v,1,0,rfl,rfl,rfl,i,l,z,u.trans j,by omega,by omega⟩
        ·rw[za X] at i;go_wp2_with (go_at_call 229;refine o.out.mono ?_;rintro e F ⟨rfl,b,j⟩;have l:=Q5 b;obtain⟨t,g,N⟩:=D.out F b;obtain⟨A,B,_⟩:=b.at;clear b)
         go_roundg m
         case measure=>omega
         case rel=>exact⟨H,v,1,a+1,rfl,rfl,by go_num,i,l,z,u.trans j,by omega,by omega⟩
       ·rw[za hv,za hv] at i;by_cases X:a+1≥d.length
        ·rw[zc X] at i;go_wp2_with (go_at_call 229;refine o.out.mono ?_;rintro e F ⟨rfl,b,j⟩;have l:=Q5 b;obtain⟨t,g,N⟩:=D.out F b;obtain⟨A,B,_⟩:=b.at;clear b)
         go_roundg m
         case measure=>omega
         case rel=>exact⟨H,at',c+1,0,rfl,by go_num,rfl,i,l,z,u.trans j,by omega,by omega⟩
        ·rw[za X] at i;go_wp2_with (go_at_call 229;refine o.out.mono ?_;rintro e F ⟨rfl,b,j⟩;have l:=Q5 b;obtain⟨t,g,N⟩:=D.out F b;obtain⟨A,B,_⟩:=b.at;clear b)
         go_roundg m
         case measure=>omega
         case rel=>exact⟨H,at',c+1,a+1,rfl,by go_num,by go_num,i,l,z,u.trans j,by omega,by omega⟩
     ·rw[za T] at q;simp only[zt,ya] at q;obtain⟨e1,V⟩:=q;have U:Hid (O=y/\r=some at'):=⟨e1.symm,V.symm⟩;clear e1 V;go_wp2;go_ret2
      exact⟨by rw[U.out.2];rfl,by rw[U.out.1];exact K.out,u⟩
theorem EK:∀(b:List V4) (k:Nat) (_:k<b.length) (u:Value),(yw b).set (k*4+2) u=yw (b.modify k fun y=>(y.1,y.2.1,u,y.2.2.2))
 |[],k,a,_=>by simp at a
 |y::r,0,_,u=>by simp[yw,dT]
 |y::r,k+1,a,u=>by
  have:=EK r k (by simpa using a) u;simp only[yw,uw,dT,List.modify_succ_cons] at this ⊢;rw[show(k+1)*4+2=k*4+2+1+1+1+1 from by omega];simpa using this
theorem Bl:∀(b:List V4) (k:Nat) (_:k<b.length) (u:Value),(yw b).set (k*4+3) u=yw (b.modify k fun y=>(y.1,y.2.1,y.2.2.1,u))
 |[],k,a,_=>by simp at a
 |y::r,0,_,u=>by simp[yw,dT]
 |y::r,k+1,a,u=>by
  have:=Bl r k (by simpa using a) u;simp only[yw,uw,dT,List.modify_succ_cons] at this ⊢;rw[show(k+1)*4+3=k*4+3+1+1+1+1 from by omega];simpa using this
theorem QU.setNode{w:World}{A:Nat}{J:z9}{P:xw}(h:QU lo w A J P)(s i n:Nat)(hs:s<J.qy.length)(K:i=1∨i=2){l cap:Nat}(D:P.sv=.slice (some ⟨l,0,none⟩) J.qy.length cap):
  QU lo (w.setCell ⟨l,s*4+1+i,none⟩ (ι n)) A {J with qy:=J.qy.set s {J.qy[s] with qi:=J.qy[s].qi.set i n}} P:=by
 have c:=ze.set w l (s*4+1+i) (ι n);have d:=h.qy;rw[D] at d;have I:s<P.tbs.length:=by rw[h.slen];exact hs
 have f:=h.qi _ (zs hs);have m:∀{N:Nat} {e:TypeId} {M:Nat} {v:Value} {R:Nat} {G:List Value},w.ownsRow N e M v R G->e≠323->∀b,v.ownBlock=some b->b∉[l]:=fun F S b u g=>sT F d S u (by simp at g;rw[g];rfl);obtain⟨o,r⟩:=OD d;have t:∀{B:Nat} {T:zi} {y:List Nat},zY lo w B T y->zY lo (w.setCell ⟨l,s*4+1+i,none⟩ (ι n)) B T y:=fun C=>C.save c (fun b O g=>by simp at g;subst g;exact C.notin (show Q6 w _ o 323 from r) (by decide) (by decide) (by decide) O);refine⟨h.low,h.box.save c (by have:=uy d h.box (by decide) rfl;simpa using Ne.symm this),h.head.save c (m h.head.own (by decide)),?_,by simpa using h.slen,fun k a b=>?_,fun x Q=>?_,yT h.bars c (m h.bars (by decide)),h.blen,fun k a b=>⟨(h.ji k a b).1.save c (m (h.ji k a b).1.own (by decide)),t (h.ji k a b).2⟩,h.hlen,fun p a b=>⟨yT (h.je p a b).1 c (m (h.je p a b).1 (by decide)),(h.je p a b).2⟩,h.jk,by simpa using h.few⟩
 ·have z:(yw (List.zipWith dG J.qy P.tbs)).length=J.qy.length*4:=by rw[tz];simp[h.slen]
  have q:=uZ d (s*4+1+i) (by omega) (ι n);rw[D];have e:(yw (List.zipWith dG J.qy P.tbs)).set (s*4+1+i) (ι n)=yw (List.zipWith dG (J.qy.set s {J.qy[s] with qi:=J.qy[s].qi.set i n}) P.tbs):=by
   have E:s<(List.zipWith dG J.qy P.tbs).length:=by simp;omega
   rcases K with rfl|rfl
   ·rw[show s*4+1+1=s*4+2 from by omega,EK _ s E];congr 1;apply kP
    ·simp
    ·intro j L H;by_cases e:s=j
     ·subst e;simp[dG,List.getD_eq_getElem?_getD,f]
     ·simp[e]
   ·rw[show s*4+1+2=s*4+3 from by omega,Bl _ s E];congr 1;apply kP
    ·simp
    ·intro j L H;by_cases e:s=j
     ·subst e;simp[dG,List.getD_eq_getElem?_getD,f]
     ·simp[e]
  rw[e] at q;simpa using q
 ·simp only[fA] at a;simp only[lC];split
  ·rename_i e;subst e;exact t (h.tries s hs b)
  ·exact t (h.tries k a b)
 ·rcases p3 Q with q|q
  ·exact h.qi x q
  ·subst q;simp[f]
theorem Kb(w:World)(C:Nat)(J:z9)(P:xw)(s l v:Nat)(h:QU lo w C J P)(ao:l<=1000000):
  Calls prog 230 #[(π C),.agg #[ι s,ι l],ι v] w fun e V=>e=ε (.tuple #[])/\QU lo V C (vy v J (s,l)) P/\ze P.sv.ownBlock.toList w V:=by
 have g:=Q5 fun W X=>D2 W C J P s l (h.below X);have U:=Q5 h;cases b:vD J (s,l) with
 |false=>
  have L:Hid (vy v J (s,l)=J):=by simp[Hid,vy,b]
  rw[b] at g;clear b h;go_enter func230,ntmps230;go_wp2_with (go_at_call 231;refine(g.out _ (by exact(by go_grown))).mono ?_;rintro e f ⟨rfl,i⟩;have c:μ w f:=zQ (by go_grown) i (zg _))
  (try simp only[Exit.inBlock,Exit.then]);refine zL (results_none rfl _ _ _) rfl ?_
  exact⟨rfl,by rw[L.out];exact U.out.below c,ze.of c⟩
 |true=>
  have ad:s<J.qy.length/\l<3:=by simpa [vD] using b
  obtain⟨H,hl⟩:=ad;by_cases N:l+1≥3
  ·have L:Hid (vy v J (s,l)=J):=by simp[Hid,vy,N]
   rw[b] at g;clear b h;go_enter func230,ntmps230;go_wp2_with (go_at_call 231;refine(g.out _ (by exact(by go_grown))).mono ?_;rintro e f ⟨rfl,i⟩;have c:μ w f:=zQ (by go_grown) i (zg _);have k:=(Q6.new w #[ι s,ι l] 327).below i;obtain⟨A,y,t⟩:=k.boxed)
   (try simp only[Exit.inBlock,Exit.then]);refine zL (results_none rfl _ _ _) rfl ?_
   exact⟨rfl,by rw[L.out];exact U.out.below c,ze.of c⟩
  ·have L:Hid (vy v J (s,l)={J with qy:=J.qy.set s {J.qy[s] with qi:=J.qy[s].qi.set (l+1) ((zG J.qy[s].rows (J.qy[s].qi.getD l 0) v).getD 0)}}):=by simp[Hid,vy,b,N,List.getD_eq_getElem?_getD,H]
   rw[b] at g;have ar:(s:Int)<(J.qy.length:Int):=by omega
   have aq:(l:Int)<3:=by omega
   have al:(l:Int)+1<3:=by omega
   obtain⟨an,_⟩:=h.at;clear b h;go_enter func230,ntmps230;go_wp2_with (go_at_call 231;refine(g.out _ (by exact(by go_grown))).mono ?_;rintro e f ⟨rfl,i⟩;have c:μ w f:=zQ (by go_grown) i (zg _);have k:=(Q6.new w #[ι s,ι l] 327).below i;obtain⟨A,y,t⟩:=k.boxed)
   have j:=Q5 (U.out.below c);have z:=j.out;obtain⟨r,S,_,_,_,B,_⟩:=z.at;obtain⟨D,au,tb,fp,m,K,ap,ac,ag,R,ab⟩:=z.side s l H hl;rw[m] at B;have G:Hid (∀n,Calls prog 130 #[(π tb),ι ((J.qy[s].qi.getD l 0:Nat):Int),ι v] (f.drewN n) fun e V=>e=ε (.tuple #[ι (((zG J.qy[s].rows (J.qy[s].qi.getD l 0) v).getD 0:Nat):Int),.bool (zG J.qy[s].rows (J.qy[s].qi.getD l 0) v).isSome])/\V=f.drewN n):=fun n=>n9 _ tb _ fp _ v (R.below (zJ (zo _ _) n));have E:Hid (∀W n,μ f W->QU lo (W.setCell ⟨D,s*4+1+(l+1),none⟩ (ι ((n:Nat):Int))) C {J with qy:=J.qy.set s {J.qy[s] with qi:=J.qy[s].qi.set (l+1) n}} P):=fun W n X=>(j.out.below X).setNode s (l+1) n H (by omega) m;have ae:Hid (P.sv.ownBlock.toList=[D]):=by rw[Hid,m];rfl
   have x:∃u,f.cell? ⟨D,s*4+1+(l+1),none⟩=some u:=by
    obtain⟨Y,Q,aa,af,a,_,_,_,q,_⟩:=j.out.side s (l+1) H (by omega);rw[m] at a;simp only[Value.slice.injEq,zt,Addr.mk.injEq] at a;obtain⟨⟨rfl,_⟩,_⟩:=a;exact⟨_,q⟩
   obtain⟨u,T⟩:=x;clear R z;generalize (zG J.qy[s].rows (J.qy[s].qi.getD l 0) v).getD 0=dn at *;generalize (zG J.qy[s].rows (J.qy[s].qi.getD l 0) v).isSome=ds at *;generalize J.qy[s].qi.getD l 0=nd at *;go_quiet ((go_at_call 130;exact Calls.quiet_of_same (G.out _)))
   have d:μ f (f.drewN nq):=zJ (zo _ _) _;clear A y t r S ab G;have ai:=(d.cell (p:=⟨C,3,none⟩) (j.out.box.lt)).trans B;have am:=zl d K T;have I:=k.below d;have O:=E.out _ dn d;have ak:∀o,(f.drewN nq).frozen? ⟨D,o,none⟩=false:=by
    obtain⟨Y,Q,aa,af,a,_,_,_,_,_,q⟩:=(j.out.below d).side s l H hl;rw[m] at a;simp only[Value.slice.injEq,zt,Addr.mk.injEq] at a;obtain⟨⟨rfl,_⟩,_⟩:=a;exact q
   have Z:ze [D] w (f.drewN nq):=ze.of (Q9 c d);have aj:=xP K d.size;have r:=xP j.out.box.lt d.size;have av:D≠w.heap.size:=fun e=>by
    have F:=j.out.qy;rw[m] at F;exact uy F k (by decide) rfl e
   generalize f.drewN nq=w2 at *;have ah:=Q5 O;clear O E B T ac ag k U g;obtain⟨A,y,t⟩:=I.boxed;go_wp2;go_region
   all_goals
    go_wp2;go_end0
    exact⟨rfl,by rw[L.out];exact ah.out.below (zo _ _).drew,by rw[ae.out];exact(Z.trans (ze.set _ _ _ _)).newer (ze.of (M:=[]) (zo _ _).drew) (by simp)⟩
end
section
open Go.Proofs.Tryz
variable {lo:Nat}{w:World}{jb:Nat}{J:z9}{P:xw}
theorem QU.hold2(h:QU lo w jb J P)(p:Nat)(n:p<5):∃d a,P.hvs[p]?=some (.slice d (J.je.getD p []).length a)/\w.cell? ⟨jb,5+p,none⟩=some (.slice d (J.je.getD p []).length a)/\(J.je.getD p []).length<=1000/\(∀k (g:k<(J.je.getD p []).length),∃b,d=some ⟨b,0,none⟩/\b<w.heap.size/\w.cell? ⟨b,k*2,none⟩=some (ι ((J.je.getD p [])[k].1:Nat))/\w.cell? ⟨b,k*2+1,none⟩=some (ι ((J.je.getD p [])[k].2:Nat))/\(J.je.getD p [])[k].2<=1000000):=by
 have r:p<J.je.length:=by rw[h.hlen.2];exact n
 have q:p<P.hvs.length:=by rw[h.hlen.1];exact n
 have e:J.je.getD p []=J.je[p]:=by simp[List.getD_eq_getElem?_getD,r]
 rw[e];obtain⟨o,u,m⟩:=h.je p r q;obtain⟨d,a,i⟩:=zp o;obtain⟨t,_⟩:=h.box.rules;refine⟨d,a,by rw[yq q,i],?_,u,fun k g=>?_⟩
 ·rw[←i,t];obtain⟨z,A,B,C,D,y⟩:=five h.hlen.1;obtain rfl|rfl|rfl|rfl|rfl:p=0∨p=1∨p=2∨p=3∨p=4:=by omega
  all_goals simp[un,y]
 ·obtain⟨b,s,j,_,l,f⟩:=yv o (by omega);have c:=i.symm.trans j;simp only[Value.slice.injEq] at c;obtain⟨x,v⟩:=ie J.je[p] k g;exact⟨b,c.1,l,f _ _ x,f _ _ v,(m _ (zs g)).2⟩
def gm(J:z9)(p v:Nat):z9:={J with ja:=J.ja.set p v,«from»:=(if p+1<5 then(J.from.set p (v+1)).set (p+1) 0 else J.from.set p (v+1))}
theorem Hf(J:z9)(p v:Nat)(a:p<5):uf J p v=(J.je.getD p []).foldl (vy v) (gm J p v):=by unfold uf;rw[za (by omega)];rfl
theorem QU.setVal(h:QU lo w jb J P)(p v:Nat)(d:p+1<5):QU lo (((w.setCell ⟨jb,16+p,none⟩ (ι v)).setCell ⟨jb,21+p,none⟩ (ι ((v:Int)+1))).setCell ⟨jb,21+(p+1),none⟩ (ι 0)) jb (gm J p v) P:=by
 obtain⟨b,c,a⟩:=h.jk;refine h.rebox (((ze.set _ _ _ _).trans (ze.set _ _ _ _)).trans (ze.set _ _ _ _)) ?_ rfl rfl rfl rfl rfl (by simp[gm,d,b,c,a]);obtain⟨n,q,s,E,F,j⟩:=five h.hlen.1;obtain⟨A,k,G,x,z,g⟩:=five b;obtain⟨u,C,l,B,m,f⟩:=five c;obtain⟨t,o,r,y,D,i⟩:=five a;have e:=((h.box.set (16+p) (ι v)).set (21+p) (ι ((v:Int)+1))).set (21+(p+1)) (ι 0);obtain rfl|rfl|rfl|rfl:p=0∨p=1∨p=2∨p=3:=by omega
 all_goals simpa [un,gm,j,g,f,i,Rj] using e
theorem QU.setVal4(h:QU lo w jb J P)(p v:Nat)(l:p<5)(s:¬p+1<5):QU lo ((w.setCell ⟨jb,16+p,none⟩ (ι v)).setCell ⟨jb,21+p,none⟩ (ι ((v:Int)+1))) jb (gm J p v) P:=by
 obtain rfl:p=4:=by omega
 obtain⟨b,c,a⟩:=h.jk;refine h.rebox ((ze.set _ _ _ _).trans (ze.set _ _ _ _)) ?_ rfl rfl rfl rfl rfl (by simp[gm,b,c,a]);obtain⟨n,q,t,F,G,i⟩:=five h.hlen.1;obtain⟨B,j,H,y,A,f⟩:=five b;obtain⟨x,D,k,C,m,e⟩:=five c;obtain⟨u,o,r,z,E,g⟩:=five a;have d:=(h.box.set (16+4) (ι v)).set (21+4) (ι ((v:Int)+1));simpa [un,gm,i,f,e,g,Rj] using d
theorem GE(v:Nat)(J:z9)(h:Nat×Nat):(vy v J h).je=J.je:=by unfold vy;split<;>rfl
theorem AN(v:Nat):∀(hs:List (Nat×Nat)) (J:z9),(hs.foldl (vy v) J).je=J.je
 |[],J=>rfl
 |h::r,J=>by rw[ut,AN v r,GE]
theorem QU.vals(h:QU lo w jb J P)(p:Nat)(k:p<5):w.cell? ⟨jb,16+p,none⟩=some (ι (J.ja.getD p 0:Nat))/\w.cell? ⟨jb,21+p,none⟩=some (ι (J.from.getD p 0:Nat))/\w.cell? ⟨jb,10+p,none⟩=some (ι (J.jg.getD p 0)):=by
 obtain⟨a,_⟩:=h.box.rules;obtain⟨c,e,b⟩:=h.jk;obtain⟨n,q,s,D,E,i⟩:=five h.hlen.1;obtain⟨z,m,F,v,y,f⟩:=five c;obtain⟨u,A,j,B,l,d⟩:=five e;obtain⟨t,o,r,x,C,g⟩:=five b;rw[a,a,a];obtain rfl|rfl|rfl|rfl|rfl:p=0∨p=1∨p=2∨p=3∨p=4:=by omega
 all_goals simp[un,i,f,d,g,Rj]
theorem G1(w:World)(jb:Nat)(J:z9)(P:xw)(p v:Nat)(h:QU lo w jb J P)(hv:v<=1000000):
  Calls prog 228 #[(π jb),ι p,ι v] w fun e q=>e=ε (.tuple #[])/\QU lo q jb (uf J p v) P/\ze (jb::P.sv.ownBlock.toList) w q:=by
 have V:=Q5 h;by_cases H:p<5
 ·have A:=Q5 (Hf J p v H);obtain⟨I,G,_⟩:=h.at;obtain⟨y,m,_⟩:=h.vals p H;by_cases E:p+1<5;obtain⟨_,O,_⟩:=h.vals (p+1) E;have Q:(p:Int)<5:=by omega
  have R:(p:Int)+1<5:=by omega
  have j:=h.setVal p v E;have n:ze [jb] w (((w.setCell ⟨jb,16+p,none⟩ (ι v)).setCell ⟨jb,21+p,none⟩ (ι ((v:Int)+1))).setCell ⟨jb,21+(p+1),none⟩ (ι 0)):=((ze.set _ _ _ _).trans (ze.set _ _ _ _)).trans (ze.set _ _ _ _);clear h;go_enter func228,ntmps228;go_upto_region 5 with fail
  clear y m O;generalize (((w.setCell ⟨jb,16+p,none⟩ (ι v)).setCell ⟨jb,21+p,none⟩ (ι ((v:Int)+1))).setCell ⟨jb,21+(p+1),none⟩ (ι 0))=w1 at *;rotate_left
  have Q:(p:Int)<5:=by omega
  have R:¬(p:Int)+1<5:=by omega
  have j:=h.setVal4 p v H E;have n:ze [jb] w ((w.setCell ⟨jb,16+p,none⟩ (ι v)).setCell ⟨jb,21+p,none⟩ (ι ((v:Int)+1))):=(ze.set _ _ _ _).trans (ze.set _ _ _ _);clear h;go_enter func228,ntmps228;go_upto_region 5 with fail
  clear y m;generalize ((w.setCell ⟨jb,16+p,none⟩ (ι v)).setCell ⟨jb,21+p,none⟩ (ι ((v:Int)+1)))=w1 at *
  all_goals
   have l:=Q5 j;clear j I G;obtain⟨ao,ae,c,g,d,_⟩:=l.out.hold2 p (by omega);obtain⟨r,s,_⟩:=l.out.at;rw[show(gm J p v).je=J.je from rfl] at c g d;obtain⟨a,f⟩:∃a,a=J.je.getD p []:=⟨_,rfl⟩;rw[←f] at c g d A;have D:=Q5 f;have C:=Q5 c;clear f c;go_wp2;clear g r s;generalize decide ((p:Int)<0)=X;generalize decide ((5:Int)<=(p:Int))=aa;go_loopw [43] (fun L wr=>∃k:Nat,k<=a.length/\L=ι k/\Hid (QU lo wr jb ((a.take k).foldl (vy v) (gm J p v)) P)/\ze (jb::P.sv.ownBlock.toList) w wr) (fun i _=>a.length-(intOf i).toNat)
   case atStart=>exact⟨0,zv _,rfl,l,n.more (by simp)⟩
   case round=>
    obtain⟨k,hk,rfl,b,t⟩:=hrel;by_cases u:k<a.length
    ·obtain⟨ad,T,z,_,_,N⟩:=b.out.hold2 p (by omega);rw[AN,show(gm J p v).je=J.je from rfl,←D.out] at z N;rw[C.out] at z;simp only[zt,Value.slice.injEq] at z;obtain⟨rfl,_,rfl⟩:=z;obtain⟨hb,rfl,ab,ac,U,B⟩:=N k u;have Y:=Q5 (rD a (vy v) (gm J p v) k u);have HD:Hid (∀W,μ wr W->Calls prog 230 #[(π jb),.agg #[ι (a[k].1:Nat),ι (a[k].2:Nat)],ι v] W fun e q=>e=ε (.tuple #[])/\QU lo q jb (vy v ((a.take k).foldl (vy v) (gm J p v)) a[k]) P/\ze P.sv.ownBlock.toList W q):=fun W Z=>Kb W jb _ P a[k].1 a[k].2 v (b.out.below Z) B;clear N;generalize (a.take k).foldl (vy v) (gm J p v)=Jk at *;generalize a[k]=hd at *;go_wp2_with (go_at_call 230;refine(HD.out _ (by exact(by go_grown))).mono ?_;rintro e w2 ⟨rfl,o,S⟩;have K:=Q5 o;clear o;have F:=(ze.of (M:=P.sv.ownBlock.toList) (show μ wr _ from(by go_grown))).trans S)
     go_roundw
     case rel=>exact⟨k+1,by omega,by go_num,by rw[Y.out];exact K.out,t.trans (F.more (fun x hx=>pg _ hx))⟩
     case measure=>simp[intOf];omega
    ·obtain rfl:k=a.length:=by omega
     rw[vw] at b;go_wp2;go_end0
     exact⟨rfl,by rw[A.out];exact b.out,t⟩
 ·have A:Hid (uf J p v=J):=by unfold uf;rw[Hid,zc (by omega)]
  clear h;go_enter func228,ntmps228;go_wp2
  (try simp only[Exit.inBlock,Exit.then]);refine zL (results_none rfl _ _ _) rfl ?_
  exact⟨rfl,by rw[A.out];exact V.out,ze.refl _ _⟩
end
section
open Go.Proofs.Tryz
variable {lo:Nat}
theorem QU.bar{w:World}{r:Nat}{J:z9}{P:xw}(h:QU lo w r J P)(k:Nat)(p:k<J.bars.length):
  ∃c d b a o s,P.bv=.slice (some ⟨c,0,none⟩) J.bars.length d/\c<w.heap.size/\w.cell? ⟨c,k*4,none⟩=some (ι (J.bars[k].lit.pred:Nat))/\w.cell? ⟨c,k*4+1,none⟩=some (.slice b J.bars[k].lit.qg.length a)/\w.cell? ⟨c,k*4+2,none⟩=some (ι (J.bars[k].jd:Nat))/\w.cell? ⟨c,k*4+3,none⟩=some ((π o))/\yh lo w (.slice b J.bars[k].lit.qg.length a) J.bars[k].lit.qg/\zY lo w o J.bars[k].rows s:=by
 obtain⟨c,d,u,_,j,f⟩:=yv h.bars (by omega);have g:k<P.bps.length:=by rw[h.blen];exact p
 obtain⟨q,l,n,m⟩:=rV (List.zipWith gj J.bars P.bps) k (by simp;omega);simp only[List.getElem_zipWith,gj] at q l n m;obtain⟨i,t⟩:=h.ji k p g;obtain⟨b,a,e⟩:=i.qx;rw[e] at l i;exact⟨c,d,b,a,_,_,u,j,f _ _ q,f _ _ l,f _ _ n,f _ _ m,i,t⟩
theorem FW(l:zu)(vals:List Nat):zF l vals=[Q7 l vals 0,Q7 l vals 1,Q7 l vals 2]:=rfl
theorem DI(w:World)(m:Nat)(J:z9)(P:xw)(l:Nat)(h:QU lo w m J P):
  Calls prog 223 #[(π m),ι l] w fun e n=>e=ε (.bool (uT J l))/\μ w n:=by
 have HJ:=Q5 h;obtain⟨C,G,_,_,_,_,M,_⟩:=h.at;obtain⟨aJ,a7,S⟩:=zp h.bars;rw[S] at M;obtain⟨a,b,c,d,e,t⟩:=five h.jk.2.1;have a2:=h.few.2.1;have HV:Hid (∀W,QU lo W m J P->W.cell? ⟨m,16,none⟩=some (ι a)/\W.cell? ⟨m,17,none⟩=some (ι b)/\W.cell? ⟨m,18,none⟩=some (ι c)/\W.cell? ⟨m,19,none⟩=some (ι d)/\W.cell? ⟨m,20,none⟩=some (ι e)):=fun W o=>by
  have q0:=(o.vals 0 (by omega)).1;have q1:=(o.vals 1 (by omega)).1;have q2:=(o.vals 2 (by omega)).1;have q3:=(o.vals 3 (by omega)).1;have q4:=(o.vals 4 (by omega)).1;rw[t] at q0 q1 q2 q3 q4;exact⟨q0,q1,q2,q3,q4⟩
 have HE:Hid (uT J l=J.bars.any (fun x=>x.jd == l&&(uo x.rows [Q7 x.lit [a,b,c,d,e] 0,Q7 x.lit [a,b,c,d,e] 1,Q7 x.lit [a,b,c,d,e] 2]).isSome)):=by
  rw[Hid];unfold uT;rw[t];rfl
 clear h;go_enter func223,ntmps223;go_wp2;clear M C G;go_loopw [15] (fun ak wr=>∃k:Nat,k<=J.bars.length/\ak=ι k/\Hid ((J.bars.take k).any (fun x=>x.jd == l&&(uo x.rows [Q7 x.lit [a,b,c,d,e] 0,Q7 x.lit [a,b,c,d,e] 1,Q7 x.lit [a,b,c,d,e] 2]).isSome)=false)/\μ w wr) (fun i _=>J.bars.length-(intOf i).toNat)
 case atStart=>exact⟨0,zv _,rfl,rfl,zo _ _⟩
 case round=>
  obtain⟨k,hk,rfl,HA,j⟩:=hrel;have U:=j.size;by_cases E:k<J.bars.length
  ·have u:=HJ.out.below j;obtain⟨C,G,_⟩:=u.at;obtain⟨aa,aw,ai,ag,ao⟩:=HV.out wr u;obtain⟨gb,aL,p,g,O,fp,s,aG,av,ap,aq,af,hT,V⟩:=u.bar k E;rw[S] at s;simp only[Value.slice.injEq] at s;obtain⟨rfl,_,rfl⟩:=s;have HS:Hid ((J.bars.take (k+1)).any (fun x=>x.jd == l&&(uo x.rows [Q7 x.lit [a,b,c,d,e] 0,Q7 x.lit [a,b,c,d,e] 1,Q7 x.lit [a,b,c,d,e] 2]).isSome)=((J.bars.take k).any (fun x=>x.jd == l&&(uo x.rows [Q7 x.lit [a,b,c,d,e] 0,Q7 x.lit [a,b,c,d,e] 1,Q7 x.lit [a,b,c,d,e] 2]).isSome)||(J.bars[k].jd == l&&(uo J.bars[k].rows [Q7 J.bars[k].lit [a,b,c,d,e] 0,Q7 J.bars[k].lit [a,b,c,d,e] 1,Q7 J.bars[k].lit [a,b,c,d,e] 2]).isSome))):=Ru J.bars _ k E;have az:Hid ((J.bars[k].jd == l&&(uo J.bars[k].rows [Q7 J.bars[k].lit [a,b,c,d,e] 0,Q7 J.bars[k].lit [a,b,c,d,e] 1,Q7 J.bars[k].lit [a,b,c,d,e] 2]).isSome)=true->uT J l=true):=fun q=>by rw[HE.out];exact ET J.bars _ k E q
   have a0:Hid (∀W,μ wr W->Calls prog 161 #[.agg #[ι (J.bars[k].lit.pred:Nat),.slice p J.bars[k].lit.qg.length g],.agg #[ι a,ι b,ι c,ι d,ι e]] W fun r n=>r=ε (.agg #[ι ((Q7 J.bars[k].lit [a,b,c,d,e] 0:Nat):Int),ι ((Q7 J.bars[k].lit [a,b,c,d,e] 1:Nat):Int),ι ((Q7 J.bars[k].lit [a,b,c,d,e] 2:Nat):Int)])/\μ W n):=fun W o=>eS W _ J.bars[k].lit.pred J.bars[k].lit.qg a b c d e (hT.below o);have T:Hid (∀W x y z,μ wr W->Calls prog 83 #[(π O),.agg #[ι ((x:Nat):Int),ι ((y:Nat):Int),ι ((z:Nat):Int)]] W fun r n=>r=ε (.tuple #[ι (((uo J.bars[k].rows [x,y,z]).getD 0:Nat):Int),.bool (uo J.bars[k].rows [x,y,z]).isSome])/\μ W n):=fun W x y z o=>IF W O _ fp x y z (V.below o);clear hT V u;generalize J.bars[k]=f at *;generalize Q7 f.lit [a,b,c,d,e] 0=r0 at *;generalize Q7 f.lit [a,b,c,d,e] 1=X at *;generalize Q7 f.lit [a,b,c,d,e] 2=Y at *;by_cases L:f.jd=l
   ·subst L;have Q:=Q5 fun W o=>T.out W r0 X Y o;clear T;generalize (uo f.rows [r0,X,Y]).getD 0=mg at *;generalize (uo f.rows [r0,X,Y]).isSome=ms at *;have ay:((f.jd:Int) == (f.jd:Int))=true:=beq_self_eq_true _;have B:=Q6.new wr #[ι f.lit.pred,.slice p f.lit.qg.length g,ι f.jd,(π O)] 325;have A:μ wr (wr.alloc (.cells #[ι f.lit.pred,.slice p f.lit.qg.length g,ι f.jd,(π O)] 325)):=(zo _ _).alloc (zg _) _;have D:=HJ.out.below (Q9 j A);obtain⟨a3,a9,_⟩:=D.at;obtain⟨am,ab,ad,al,ae⟩:=HV.out _ D;clear D;go_wp2;generalize wr.alloc (.cells #[ι f.lit.pred,.slice p f.lit.qg.length g,ι f.jd,(π O)] 325)=Z at *;clear av ap aq af aa aw ai ag ao C G;obtain⟨aH,aD,aK⟩:=B.boxed;have aI:=A.size;go_region_held3 (fun n=>n.cell? ⟨wr.heap.size,0,none⟩=some (ι f.lit.pred)/\n.cell? ⟨wr.heap.size,1,none⟩=some (.slice p f.lit.qg.length g)/\n.cell? ⟨m,16,none⟩=some (ι a)/\n.cell? ⟨m,17,none⟩=some (ι b)/\n.cell? ⟨m,18,none⟩=some (ι c)/\n.cell? ⟨m,19,none⟩=some (ι d)/\n.cell? ⟨m,20,none⟩=some (ι e)) (first|go_keep|(go_simp;done)) (go_at_call 161;refine(a0.out _ (by exact(by go_grown))).mono ?_;rintro r w2 ⟨rfl,K⟩;have v:μ Z w2:=(zQ (by go_grown) K (zg _));have N:=B.below v;obtain⟨a8,a1,a4⟩:=N.boxed;have aE:=v.size;have I:=HJ.out.below (Q9 (Q9 j A) v);obtain⟨a5,aC,_⟩:=I.at;obtain⟨ah,an,ac,aj,ax⟩:=HV.out w2 I;try (have au:=(show Q6 ((Z.alloc (.cells #[ι 0,ι 0,ι 0] 165)).drew) Z.heap.size #[ι 0,ι 0,ι 0] 165 from Q6.drew (Q6.new _ _ _)).below K;obtain⟨a6,aB,aA⟩:=au.boxed))
    all_goals
     have aF:=Q9 A v;clear ah an ac aj ax am ab ad al ae;cases ms with
     |true=>
      have ar:=Q5 (az.out (by simp));go_wp2_with (go_at_call 83;refine(Q.out _ (by exact(by go_grown))).mono ?_;rintro r w3 ⟨rfl,H⟩;have F:μ wr w3:=(zQ (by go_grown) H (zg _)))
      go_ret;exact⟨by rw[ar.out];rfl,Q9 j F⟩
     |false=>
      have R:Hid ((J.bars.take (k+1)).any (fun x=>x.jd == f.jd&&(uo x.rows [Q7 x.lit [a,b,c,d,e] 0,Q7 x.lit [a,b,c,d,e] 1,Q7 x.lit [a,b,c,d,e] 2]).isSome)=false):=by rw[Hid,HS.out,HA.out];simp
      go_wp2_with (go_at_call 83;refine(Q.out _ (by exact(by go_grown))).mono ?_;rintro r w3 ⟨rfl,H⟩;have F:μ wr w3:=(zQ (by go_grown) H (zg _)))
      go_roundw
      case rel=>exact⟨k+1,by omega,by go_num,R,Q9 j F⟩
      case measure=>simp[intOf];omega
   ·have R:Hid ((f.jd == l&&(uo f.rows [r0,X,Y]).isSome)=false):=by rw[Hid,beq_eq_false_iff_ne.2 L];rfl
    have ay:((f.jd:Int) == (l:Int))=false:=beq_eq_false_iff_ne.2 (by omega);go_wp2;go_roundw
    case rel=>exact⟨k+1,by omega,by go_num,by rw[HS.out,HA.out,R.out];rfl,j.alloc U _⟩
    case measure=>simp[intOf];omega
  ·have R:Hid (uT J l=false):=by
    rw[Hid,HE.out];have q:=HA.out;rw[xh (by omega)] at q;exact q
   go_wp2;go_ret;exact⟨by rw[R.out];rfl,j⟩
end
section
open Go.Proofs.Tryz
variable {lo:Nat}{J:z9}
def R9(J:z9):Prop:=∀s∈J.qy,s.rows.qf<=1000
theorem QU.narrow{w:World}{b:Nat}{P:xw}(h:QU lo w b J P):R9 J:=by
 intro s c;obtain⟨k,a,rfl⟩:=qa c;obtain⟨f,e,d,_⟩:=h.tries k a (by rw[h.slen];exact a);exact d.wide
theorem Gd(h:R9 J)(b:Nat×Nat)(f:Nat):R9 (vL J b f).1/\∀v,(vL J b f).2=some v->v<=1000/\f<=1000:=by
 unfold vL;split
 ·rename_i d;refine⟨h,fun v a=>?_⟩;have c:b.1<J.qy.length:=by simp[vD] at d;exact d.1
  have e:J.qy.getD b.1 yK.zero=J.qy[b.1]:=by simp[List.getD_eq_getElem?_getD,c]
  simp only[e] at a;have g:=h _ (zs c);have i:=tu a;have j:f<J.qy[b.1].rows.qf:=by
   unfold yz at a;split at a
   ·rename_i q;exact q.2
   ·cases a
  omega
 ·exact⟨h,fun v a=>by cases a⟩
theorem AL:∀(n:Nat) (J:z9) (hs:List (Nat×Nat)) (a b c:Nat) (e:z9) (v:Nat),R9 J->(b<hs.length∨a<=1000)->kx n J hs a b c=some (e,some v)->v<=1000
 |0,_,_,_,_,_,_,_,_,_,h=>by simp[kx] at h
 |n+1,J,hs,a,b,c,e,v,j,k,h=>by
  unfold kx at h;by_cases d:b<hs.length
  ·rw[zc d] at h;obtain⟨i,l⟩:=Gd j (hs.getD c (0,0)) a;generalize vL J (hs.getD c (0,0)) a=m at *;obtain⟨g,f⟩:=m;cases f with
   |none=>simp at h
   |some u=>
    obtain⟨p,o⟩:=l u rfl;refine AL n g hs _ _ _ e v i (zb ?_) h;split<;>omega
  ·rw[za d] at h;simp only[zt,ya] at h;obtain⟨_,rfl⟩:=h;omega
theorem IK{n:Nat}{b:z9}{p f v:Nat}(c:R9 J)(h:fh n J p f=some (b,some v)):v<=1000:=by
 unfold fh at h;by_cases a:p≥5∨(J.je.getD p []).length=0
 ·rw[zc a] at h;simp at h
 ·rw[za a] at h;exact AL n J _ f 0 0 b v c (zf (by omega)) h
theorem OW(w:World)(d:Nat)(J:z9)(P:xw)(n:Nat)(D:z9)(b:Bool)(h:QU lo w d J P)(O:jv n J J.ql=some (D,b)):
  Calls prog 224 #[(π d)] w fun e z=>e=ε (.bool b)/\QU lo z d D P/\ze (d::P.sv.ownBlock.toList) w z:=by
 have HJ:=Q5 h;have Z:=Q5 O;obtain⟨H,F,_,_,_,_,_,_,G,_⟩:=h.at;clear h O;go_enter func224,ntmps224;go_wp2;clear G H F;go_loopg [3] n (fun k v3 wr=>∃(i:z9) (o:Int),v3=ι o/\Hid (jv k i o=some (D,b))/\Hid (QU lo wr d i P)/\ze (d::P.sv.ownBlock.toList) w wr)
 case atStart=>exact⟨J,J.ql,rfl,Z,HJ,ze.refl _ _⟩
 case round=>
  obtain⟨i,o,rfl,Q,c,l⟩:=hrel;obtain⟨H,F,_,_,aa,_⟩:=c.out.at;have ac:=c.out.few.2.2;cases gk with
  |zero=>have q:=Q.out;simp[jv] at q
  |succ m=>
   have q:=Q.out;unfold jv at q;by_cases f:0<=o/\o<i.vars/\o<5
   ·rw[zc f] at q;obtain⟨d1,d2,d3⟩:=f;obtain⟨p,rfl⟩:∃p:Nat,o=p:=⟨o.toNat,by omega⟩;have I:p<5:=by omega
    simp only[Int.toNat_natCast] at q;obtain⟨_,ad,ab⟩:=c.out.vals p I;cases C:fh m i p (i.from.getD p 0) with
    |none=>rw[C] at q;cases q
    |some ar=>
     obtain⟨g,L⟩:=ar;rw[C] at q;have x:Hid (Calls prog 227 #[(π d),ι p,ι ((i.from.getD p 0:Nat):Int)] wr fun e z=>e=ε (.tuple #[ι ((L.getD 0:Nat):Int),.bool L.isSome])/\QU lo z d g P/\ze [d] wr z):=KV wr d i P p _ m g L c.out C;cases L with
     |none=>
      simp only[gE,gD] at x;have j:Hid (jv m g (g.jg.getD p 0)=some (D,b)):=q;clear q C;generalize i.from.getD p 0=fr at *;go_wp2_with (go_at_call 227;refine x.out.mono ?_;rintro e T ⟨rfl,a,u⟩;have y:=Q5 a;obtain⟨V,U,_⟩:=a.at;obtain⟨_,_,Y⟩:=a.vals p I;clear a)
      go_roundg m
      case measure=>omega
      case rel=>exact⟨g,g.jg.getD p 0,rfl,j,y,l.trans (u.more (by simp))⟩
     |some v=>
      have hv:=IK c.out.narrow C;simp only[ur,jV] at x;have j:Hid (jv m (uf g p v) (if uT (uf g p v) (p+1)=true then(p:Int) else(p:Int)+1)=some (D,b)):=q;clear q C;have K:=Q5 fun W (N:QU lo W d g P)=>G1 W d g P p v N (by omega);have E:Hid (∀W,QU lo W d (uf g p v) P->Calls prog 223 #[(π d),ι ((p:Int)+1)] W fun e z=>e=ε (.bool (uT (uf g p v) (p+1)))/\μ W z):=fun W N=>by
       have q:=DI W d _ P (p+1) N;rw[show((p+1:Nat):Int)=(p:Int)+1 from by omega] at q;exact q
      generalize i.from.getD p 0=fr at *;generalize uT (uf g p v) (p+1)=bb at *;generalize uf g p v=S at *;cases bb with
      |true=>
       rw[zc rfl] at j;go_wp2_with (first|(go_at_call 227;refine x.out.mono ?_;rintro e T ⟨rfl,a,u⟩;have y:=Q5 a;clear a)|(go_at_call 228;refine(K.out _ y.out).mono ?_;rintro e w3 ⟨rfl,t,A⟩;have r:=Q5 t;clear t)|(go_at_call 223;refine(E.out _ r.out).mono ?_;rintro e w4 ⟨rfl,s⟩))
       go_roundg m
       case measure=>omega
       case rel=>exact⟨S,p,rfl,j,r.out.below s,((l.trans (u.more (by simp))).trans A).newer (ze.of (M:=[]) s) (by simp)⟩
      |false=>
       rw[za (by simp)] at j;go_wp2_with (first|(go_at_call 227;refine x.out.mono ?_;rintro e T ⟨rfl,a,u⟩;have y:=Q5 a;clear a)|(go_at_call 228;refine(K.out _ y.out).mono ?_;rintro e w3 ⟨rfl,t,A⟩;have r:=Q5 t;clear t)|(go_at_call 223;refine(E.out _ r.out).mono ?_;rintro e w4 ⟨rfl,s⟩))
       go_roundg m
       case measure=>omega
       case rel=>exact⟨S,(p:Int)+1,rfl,j,r.out.below s,((l.trans (u.more (by simp))).trans A).newer (ze.of (M:=[]) s) (by simp)⟩
   ·rw[za f] at q;simp only[zt,ya] at q;obtain⟨X,R⟩:=q;have B:Hid (D=i/\b=decide (o≥i.vars)):=⟨X.symm,R.symm⟩;clear X R;by_cases g1:0<=o
    ·by_cases g2:o<(i.vars:Int)
     ·have g3:¬o<5:=by omega
      go_wp2;go_ret;exact⟨by rw[B.out.2];first|(simp;done)|(simp;omega),by rw[B.out.1];exact c.out,l⟩
     ·go_wp2;go_ret;exact⟨by rw[B.out.2];first|(simp;done)|(simp;omega),by rw[B.out.1];exact c.out,l⟩
    ·go_wp2;go_ret;exact⟨by rw[B.out.2];first|(simp;done)|(simp;omega),by rw[B.out.1];exact c.out,l⟩
theorem QU.setDepth{w:World}{a:Nat}{P:xw}(h:QU lo w a J P)(m:Int):QU lo (w.setCell ⟨a,26,none⟩ (ι m)) a {J with ql:=m} P:=by
 obtain⟨d,f,c⟩:=h.jk;refine h.rebox (ze.set _ _ _ _) ?_ rfl rfl rfl rfl rfl h.jk;obtain⟨o,q,s,D,E,j⟩:=five h.hlen.1;obtain⟨z,k,F,v,y,g⟩:=five d;obtain⟨u,A,l,B,n,e⟩:=five f;obtain⟨t,p,r,x,C,i⟩:=five c;have b:=h.box.set 26 (ι m);simpa [un,j,g,e,i] using b
theorem Sm(w:World)(j:Nat)(J:z9)(P:xw)(n:Nat)(t:z9)(b:Bool)(h:QU lo w j J P)(f:dQ n J=some (t,b)):
  Calls prog 215 #[(π j)] w fun e s=>e=ε (.bool b)/\QU lo s j t P/\ze (j::P.sv.ownBlock.toList) w s:=by
 unfold dQ at f;cases l:jv n J J.ql with
 |none=>rw[l] at f;cases f
 |some v=>
  obtain⟨q,p⟩:=v;rw[l] at f;simp only[zt,ya] at f;obtain⟨x,rfl⟩:=f;have k:=Q5 (OW w j J P n q p h l);have r:=Q5 x.symm;cases p with
  |false=>
   go_enter func215,ntmps215;go_wp2_with (go_at_call 224;refine k.out.mono ?_;rintro e u ⟨rfl,a,c⟩;have d:=Q5 a;obtain⟨o,m,_,_,_,_,_,i,g,_⟩:=a.at;clear a)
   go_ret;exact⟨rfl,by rw[r.out];exact d.out.setDepth (-1),c.trans ((ze.set _ _ _ _).more (by simp))⟩
  |true=>
   go_enter func215,ntmps215;go_wp2_with (go_at_call 224;refine k.out.mono ?_;rintro e u ⟨rfl,a,c⟩;have d:=Q5 a;obtain⟨o,m,_,_,_,_,_,i,g,_⟩:=a.at;clear a)
   go_ret;exact⟨rfl,by rw[r.out];exact(d.out.setDepth (-1)).setDepth q.last,(c.trans ((ze.set _ _ _ _).more (by simp))).trans ((ze.set _ _ _ _).more (by simp))⟩
end
section
open Go.Proofs.Tryz
variable {lo:Nat}
theorem NC(w:World)(b:Nat)(J:z9)(P:xw)(h:QU lo w b J P):
  Calls prog 217 #[(π b)] w fun e d=>e=ε (ι J.jf)/\d=w:=by
 obtain⟨f,c,_,_,_,_,_,_,_,a⟩:=h.at;clear h;go_enter func217,ntmps217;go_wp2;go_ret;exact⟨rfl,rfl⟩
theorem K7(w:World)(o:Nat)(J:z9)(P:xw)(h:QU lo w o J P):
  Calls prog 216 #[(π o)] w fun r D=>r=ε (.agg #[ι ((Q7 J.head J.ja 0:Nat):Int),ι ((Q7 J.head J.ja 1:Nat):Int),ι ((Q7 J.head J.ja 2:Nat):Int)])/\μ w D:=by
 obtain⟨C,A,L,n,_⟩:=h.at;obtain⟨a,b,c,d,e,f⟩:=five h.jk.2.1;have I:=(h.vals 0 (by omega)).1;have y:=(h.vals 1 (by omega)).1;have E:=(h.vals 2 (by omega)).1;have z:=(h.vals 3 (by omega)).1;have F:=(h.vals 4 (by omega)).1;rw[f] at I y E z F ⊢;obtain⟨x,q,j⟩:=h.head.qx;have s:=h.head;rw[j] at n s;have m:=Q5 fun W u=>eS W _ J.head.pred J.head.qg a b c d e (s.below u);generalize Q7 J.head [a,b,c,d,e] 0=M at *;generalize Q7 J.head [a,b,c,d,e] 1=K at *;generalize Q7 J.head [a,b,c,d,e] 2=H at *;go_enter func216,ntmps216;go_wp2;go_region_with (go_at_call 161;refine(m.out _ (by exact(by go_grown))).mono ?_;rintro r G ⟨rfl,g⟩;have l:μ w G:=(zQ (by go_grown) g (zg _));have k:=(Q6.drew (Q6.new w #[ι 0,ι 0,ι 0] 165)).below g;obtain⟨i,t,B⟩:=k.boxed)
 all_goals
  go_wp2;exact zL (v:=.agg #[ι M,ι K,ι H]) (by simp[results,results216,go_sem,i]) rfl ⟨rfl,((l.setCell (p:=⟨w.heap.size,0,none⟩) (by simp) _).setCell (p:=⟨w.heap.size,1,none⟩) (by simp) _).setCell (p:=⟨w.heap.size,2,none⟩) (by simp) _⟩
theorem Q3:(prog.info? 327).map (fun i=>(i.zero,i.size,i.bytes))=some (some (.agg #[ι 0,ι 0]),2,16):=by kernel_rfl
def gZ(a:Nat)(x:zu×Nat):Option (Nat×Nat):=(yN x.1 a).map fun b=>(x.2,b)
theorem AW(r:zr)(a:Nat):xb r a=r.qc.zipIdx.filterMap (gZ a):=rfl
theorem Ng(a:List zu)(b k:Nat)(c:k<a.length):(a.take (k+1)).zipIdx.filterMap (gZ b)=(a.take k).zipIdx.filterMap (gZ b)++((yN a[k] b).map fun d=>(k,d)).toList:=by
 rw[yM c,List.zipIdx_append,sK];congr 1;simp only[List.zipIdx_singleton,qt,vz,pZ,List.filterMap_nil,gZ];rw[dP (by omega)];cases yN a[k] b<;>rfl
theorem Nk(hs:List (Nat×Nat))(x:Nat×Nat):ki (hs++[x])=ki hs++[ι (x.1:Nat),ι (x.2:Nat)]:=by simp[ki]
theorem FA(w:World)(tv O R:Value)(r:zr)(b:Nat)(h:vm lo w tv O R r)(S:b<=1000000):
  Calls prog 221 #[kL r tv O R,ι b] w fun e t=>∃M,e=.returned M/\t.ownsRow w.heap.size 327 2 M (xb r b).length (ki (xb r b))/\μ w t:=by
 obtain⟨i0,Z,y,G,z⟩:=info_parts Q3;obtain⟨ac,I,rfl⟩:=h.qc.qx;have ad:=h.qc.len;have Y:=h.qc;have HE:Hid (xb r b=r.qc.zipIdx.filterMap (gZ b)):=rfl;unfold kL;clear h;generalize r.qc=c at *;go_enter func221,ntmps221;go_wp2;go_loopw [5,13] (fun v5 E wr=>∃k:Nat,k<=c.length/\E=ι k/\wr.ownsRow w.heap.size 327 2 v5 ((c.take k).zipIdx.filterMap (gZ b)).length (ki ((c.take k).zipIdx.filterMap (gZ b)))/\μ w wr) (fun _ i _=>c.length-(intOf i).toNat)
 case atStart=>exact⟨0,zv _,rfl,yC _ _ _ _,(by go_grown)⟩
 case round=>
  obtain⟨k,hk,rfl,a,d⟩:=hrel;have Q:=d.size;have H:((c.take k).zipIdx.filterMap (gZ b)).length<=k:=by
   have:=sd (gZ b) (c.take k).zipIdx;simp at this;omega
  by_cases q:k<c.length
  ·obtain⟨g,F,o,A,J,L,K,P⟩:=Y.cell k q;subst A;have ab:=zl d J L;have T:=zl d J K;have aa:g<wr.heap.size:=by omega
   have s:=Q5 (Ng c b k q);have m:Hid (∀W,μ w W->Calls prog 187 #[.agg #[ι (c[k].pred:Nat),.slice F c[k].qg.length o],ι b] W fun e t=>e=ε (.tuple #[ι (((yN c[k] b).getD 0:Nat):Int),.bool (yN c[k] b).isSome])/\μ W t):=fun W X=>Ev W _ c[k].pred b c[k].qg (P.below X) S;clear L K P;generalize c[k]=l at *;generalize (c.take k).zipIdx.filterMap (gZ b)=C at *;generalize yN l b=V at *;cases V with
   |none=>
    simp only[Option.map_none,Option.toList_none,qQ] at s;simp only[gE,gD] at m;go_wp2_with (go_at_call 187;refine(m.out _ (by exact(by go_grown))).mono ?_;rintro e u ⟨rfl,n⟩;have f:μ wr u:=(zQ (by go_grown) n (zg _)))
    go_roundw
    case rel=>exact⟨k+1,by omega,by go_num,by rw[s.out];exact zB a f,Q9 d f⟩
    case measure=>simp[intOf];omega
   |some lv=>
    simp only[jy,Option.toList_some] at s;simp only[ur,jV] at m;obtain⟨D,p,rfl⟩:=zp a;go_wp2_with (first|(go_at_call 187;refine(m.out _ (by exact(by go_grown))).mono ?_;rintro e u ⟨rfl,n⟩;have f:μ wr u:=(zQ (by go_grown) n (zg _));have j:=zB a f;have U:=f.size)|(at_builtin;refine kV u _ [ι k,ι lv] _ rfl (.tmp 25) (.tmp 29) 307 rfl w.heap.size 327 i0 _ 2 16 underlying307 Z y G z rfl (by decide) (.slice D C.length p) C.length (ki C) rfl j (zo _ _) _ _ rfl (by simp) rfl (by simp[Value.oneCell']) (by omega) (by omega) (by omega) ?_;intro v' w3 v B N))
    go_roundw
    case rel=>exact⟨k+1,by omega,by go_num,by rw[s.out,Nk,yp];exact v,(Q9 d f).trans (B.below (fun x hx=>yW j (yt hx)) (by omega))⟩
    case measure=>simp[intOf];omega
  ·rw[xh (by omega)] at a;go_wp2;go_ret;exact⟨_,rfl,by rw[HE.out];exact a,d⟩
end
section
variable {lo:Nat}{w w':World}{base tb b0:Nat}{v:Value}{xs:List Value}{c:Array Value}{T:zi}{fp:List Nat}
abbrev zn:=Nat×Nat×Nat
def Rz(t:TypeId):Prop:=t≠229/\t≠273/\t≠3
instance (t:TypeId):Decidable (Rz t):=by unfold Rz;infer_instance
def Jw(w:World)(b:Nat):Prop:=∃c t,Q6 w b c t/\¬Rz t
theorem tn{t:TypeId}(h:t=229∨t=273∨t=3):¬Rz t:=by
 rintro⟨a,b,c⟩;rcases h with h|h|h
 ·exact a h
 ·exact b h
 ·exact c h
theorem uW{e:TypeId}{a n:Nat}(h:w.ownsRow base e a v n xs){b:Nat}(d:v.ownBlock=some b):∃c,Q6 w b c e:=by
 obtain⟨_,⟨f,_⟩|⟨g,i,k,f,_,j,_⟩⟩:=h
 ·subst f;cases d
 ·subst f;simp only[Value.ownBlock,zt] at d;subst d;exact⟨_,j⟩
theorem Q6.type{b:Nat}{e:Array Value}{t d:TypeId}(h:Q6 w b c t)(a:Q6 w b e d):t=d:=by
 unfold Q6 at h a;rw[h] at a;simp at a;exact a.2
theorem zY.typed(h:zY lo w tb T fp):∀b∈fp,Jw w b:=by
 obtain⟨k,j,d,rfl⟩:=h;intro b a;simp only[R6,zx,zI] at a;rcases a with a|a|a
 ·subst a;exact⟨_,_,d.box,tn (zf rfl)⟩
 ·obtain⟨c,f⟩:=uW d.qi (yt a);exact⟨_,_,f,tn (zb (zf rfl))⟩
 ·obtain⟨i,g,e|e⟩:=eT a
  ·obtain⟨c,f⟩:=uW (d.leap i (by rw[←d.len];exact g) g) (b:=b) (by rw[e];rfl);exact⟨_,_,f,tn (zb (zb rfl))⟩
  ·obtain⟨c,f⟩:=uW (d.down i (by rw[←d.len];exact g) g) (b:=b) (by rw[e];rfl);exact⟨_,_,f,tn (zb (zb rfl))⟩
def yQ(lo:Nat)(w:World)(own:Nat->zn)(ρ:zn)(tb:Nat)(T:zi):Prop:=∃fp,zY lo w tb T fp/\∀b∈fp,own b=ρ
structure QC (lo:Nat) (ok:TypeId->zn->Prop) (w:World) (own:Nat->zn) (w':World) (own':Nat->zn):Prop where
 old:∀b,b<w.heap.size->own' b=own b
 save:∃M,ze M w w'/\∀b∈M,lo<=b/\b<w.heap.size/\∃c t,Q6 w b c t/\ok t (own b)
def onT(rs:zn->Prop):TypeId->zn->Prop:=fun t ρ=>¬Rz t/\rs ρ
def gd(l:List TypeId):TypeId->zn->Prop:=fun t _=>t∈l
def orK(a b:TypeId->zn->Prop):TypeId->zn->Prop:=fun t ρ=>a t ρ∨b t ρ
theorem QC.of{ok:TypeId->zn->Prop}{w w':World}(own:Nat->zn)(a:μ w w'):QC lo ok w own w' own:=⟨fun _ _=>rfl,[],ze.of a,by simp⟩
theorem QC.refl{ok:TypeId->zn->Prop}(w:World)(own:Nat->zn):QC lo ok w own w own:=QC.of own (zo _ _)
theorem QC.more{ok ok':TypeId->zn->Prop}{own a:Nat->zn}(h:QC lo ok w own w' a)(hs:∀t ρ,ok t ρ->ok' t ρ):QC lo ok' w own w' a:=by
 obtain⟨f,M,i,g⟩:=h;refine⟨f,M,i,fun b d=>?_⟩;obtain⟨l,j,c,t,e,k⟩:=g b d;exact⟨l,j,c,t,e,hs _ _ k⟩
theorem QC.size{ok:TypeId->zn->Prop}{w w':World}{own a:Nat->zn}(h:QC lo ok w own w' a):w.heap.size<=w'.heap.size:=by
 obtain⟨_,M,b,_⟩:=h;exact b.size
theorem QC.trans{ok:TypeId->zn->Prop}{a b c:World}{q p n:Nat->zn}(h:QC lo ok a q b p)(k:QC lo ok b p c n):QC lo ok a q c n:=by
 obtain⟨l,M,f,o⟩:=h;obtain⟨s,N,g,y⟩:=k;have u:=f.size;refine⟨fun x d=>(s x (by omega)).trans (l x d),M++N.filter (·<a.heap.size),⟨g.os.trans f.os,g.tape.trans f.tape,g.output.trans f.output,yc u g.size,fun x d j=>?_⟩,fun x d=>?_⟩
 ·simp only[zI,uS,not_or,not_and,decide_eq_true_eq] at j;exact(g.block x (by omega) fun i=>j.2 i d).trans (f.block x d j.1)
 ·simp only[zI,uS,decide_eq_true_eq] at d;rcases d with d|⟨d,e⟩
  ·exact o x d
  ·obtain⟨z,A,c,t,r,m⟩:=y x d;rw[l x e] at m;by_cases i:x∈M
   ·exact o x i
   ·exact⟨z,e,c,t,by unfold Q6 at r ⊢;rw[←f.block x e i];exact r,m⟩
theorem QC.ofSave{ok:TypeId->zn->Prop}(own:Nat->zn){M:List Nat}(hs:ze M w w')(a:∀b∈M,lo<=b/\b<w.heap.size/\∃c t,Q6 w b c t/\ok t (own b)):QC lo ok w own w' own:=⟨fun _ _=>rfl,M,hs,a⟩
theorem QC.set{ok:TypeId->zn->Prop}{w:World}(own:Nat->zn){b:Nat}{c:Array Value}{t:TypeId}(a:Q6 w b c t)(e:lo<=b)(f:ok t (own b))(o:Nat)(u:Value):QC lo ok w own (w.setCell ⟨b,o,none⟩ u) own:=
 QC.ofSave own (ze.set _ _ _ _) (fun x d=>by simp at d;subst d;exact⟨e,a.lt,_,_,a,f⟩)
theorem Q6.mod{ok:TypeId->zn->Prop}{own a:Nat->zn}{b:Nat}{t:TypeId}(h:Q6 w b c t)(p:QC lo ok w own w' a)(d:¬ok t (own b)):Q6 w' b c t:=by
 obtain⟨_,M,i,f⟩:=p;refine h.save i fun e=>?_;obtain⟨_,_,j,k,q,g⟩:=f b e;rw[h.type q] at d;exact d g
theorem pY{ok:TypeId->zn->Prop}{own d:Nat->zn}{e:TypeId}{a n:Nat}(h:w.ownsRow base e a v n xs)(p:QC lo ok w own w' d)(k:∀b,v.ownBlock=some b->¬ok e (own b)):w'.ownsRow base e a v n xs:=by
 obtain⟨_,M,m,j⟩:=p;refine yT h m fun b f i=>?_;obtain⟨c,g⟩:=uW h f;obtain⟨_,_,o,r,q,l⟩:=j b i;have:=k b f;rw[g.type q] at this;exact this l
theorem vG{ok:TypeId->zn->Prop}{own b:Nat->zn}{e:TypeId}{a n:Nat}(h:w.ownsRow base e a v n xs)(p:QC lo ok w own w' b)(d:∀ρ,¬ok e ρ):w'.ownsRow base e a v n xs:=pY h p fun _ _=>d _
theorem zY.mod{ok:TypeId->zn->Prop}{own a:Nat->zn}(h:zY b0 w tb T fp)(p:QC lo ok w own w' a)(f:∀b∈fp,∀t,¬Rz t->¬ok t (own b)):zY b0 w' tb T fp:=by
 obtain⟨_,M,l,j⟩:=p;refine h.save l fun b e g=>?_;obtain⟨_,_,c,t,q,i⟩:=j b g;obtain⟨m,n,k,d⟩:=h.typed b e;rw[k.type q] at d;exact f b e t d i
theorem yQ.mod{ok:TypeId->zn->Prop}{w w':World}{own a:Nat->zn}{ρ:zn}{tb:Nat}{T:zi}(h:yQ lo w own ρ tb T)(p:QC lo ok w own w' a)(i:∀t,¬Rz t->¬ok t ρ):yQ lo w' a ρ tb T:=by
 obtain⟨fp,e,f⟩:=h;exact⟨fp,e.mod p fun b d t g=>by rw[f b d];exact i t g,fun b d=>(p.old b (e.lt b d).2).trans (f b d)⟩
theorem jj{rs:zn->Prop}{t:TypeId}(h:Rz t):∀ρ,¬onT rs t ρ:=fun _ q=>q.1 h
theorem yQ.onT{rs:zn->Prop}{w w':World}{own a:Nat->zn}{ρ:zn}{tb:Nat}{T:zi}(h:yQ lo w own ρ tb T)(p:QC lo (onT rs) w own w' a)(b:¬rs ρ):yQ lo w' a ρ tb T:=h.mod p fun _ _ q=>b q.2
theorem yh.mod{ok:TypeId->zn->Prop}{own a:Nat->zn}{ts:List zZ}(h:yh b0 w v ts)(p:QC lo ok w own w' a)(b:∀ρ,¬ok 284 ρ):yh b0 w' v ts:=⟨vG h.own p b,h.len,h.num⟩
theorem uc.mod{b0:Nat}{ok:TypeId->zn->Prop}{w w':World}{own d:Nat->zn}{v:Value}{g:List zu}(h:uc b0 w v g)(p:QC lo ok w own w' d)(m:∀ρ,¬ok 284 ρ)(e:∀ρ,¬ok 204 ρ):uc b0 w' v g:=by
 obtain⟨i,j,n,l,f⟩:=h;exact⟨i,vG j p e,n,l,fun k a b=>⟨(f k a b).1,(f k a b).2.1.mod p m,(f k a b).2.2⟩⟩
theorem vm.mod{b0:Nat}{ok:TypeId->zn->Prop}{w w':World}{own a:Nat->zn}{tv e f:Value}{r:zr}(h:vm b0 w tv e f r)(p:QC lo ok w own w' a)(d:∀ρ,¬ok 284 ρ)(b:∀ρ,¬ok 204 ρ):vm b0 w' tv e f r:=⟨h.head.mod p d,h.qc.mod p d b,h.qp.mod p d b,h.small⟩
theorem QM.mod{ok:TypeId->zn->Prop}{own b:Nat->zn}{a:List zm}(h:QM b0 w v a)(p:QC lo ok w own w' b)(d:∀ρ,¬ok 165 ρ):QM b0 w' v a:=⟨vG h.1 p d,h.2⟩
def ext(own:Nat->zn)(n:Nat)(ρ:zn):Nat->zn:=fun b=>if b<n then own b else ρ
theorem dE(own:Nat->zn)(n:Nat)(ρ:zn)(b:Nat)(h:b<n):ext own n ρ b=own b:=by simp[ext,h]
theorem QV.mod{own:Nat->zn}{ρ:zn}{f:zi}{d:List Nat}(h:zY lo w tb T fp)(e:∀b∈fp,own b=ρ)(k:QV lo w w' tb f fp d):
  yQ lo w' (ext own w.heap.size ρ) ρ tb f/\QC lo (onT (·=ρ)) w own w' (ext own w.heap.size ρ):=by
 refine⟨⟨d,k.trie,fun b a=>?_⟩,fun b a=>by simp[ext,a],fp,k.save,fun b a=>⟨(h.lt b a).1,(h.lt b a).2,?_⟩⟩
 ·unfold ext;split
  ·rcases k.qo b a with q|q
   ·exact e b q
   ·omega
  ·rfl
 ·obtain⟨c,t,i,g⟩:=h.typed b a;exact⟨c,t,i,g,e b a⟩
theorem QC.extNew{ok:TypeId->zn->Prop}(own:Nat->zn)(ρ:zn)(a:μ w w'):QC lo ok w own w' (ext own w.heap.size ρ):=⟨fun b h=>by simp[ext,h],[],ze.of a,by simp⟩
theorem zY.low{a b:Nat}{w:World}{tb:Nat}{T:zi}{fp:List Nat}(h:zY b w tb T fp)(e:a<=b):zY a w tb T fp:=by
 obtain⟨f,g,d,rfl⟩:=h;exact⟨f,g,⟨yc e d.low,d.box,yr d.qi e,d.len,fun i a b=>yr (d.leap i a b) e,fun i a b=>yr (d.down i a b) e,d.apart,d.wide,d.many,d.deep,d.few⟩,rfl⟩
theorem zY.new(own:Nat->zn)(ρ:zn)(h:zY w.heap.size w' tb T fp)(a:lo<=w.heap.size):yQ lo w' (ext own w.heap.size ρ) ρ tb T:=
 ⟨fp,h.low a,fun b d=>by have:=(h.lt b d).1;simp[ext,Nat.not_lt.2 this]⟩
theorem yQ.below{own:Nat->zn}{ρ:zn}(h:yQ lo w own ρ tb T)(a:μ w w'):yQ lo w' own ρ tb T:=h.mod (QC.of (ok:=fun _ _=>False) own a) (fun _ _=>id)
theorem yQ.set{w:World}{own:Nat->zn}{ρ:zn}{tb:Nat}{T:zi}(h:yQ lo w own ρ tb T){b:Nat}{c:Array Value}{t:TypeId}(f:Q6 w b c t)(g:Rz t)(o:Nat)(u:Value):yQ lo (w.setCell ⟨b,o,none⟩ u) own ρ tb T:=by
 obtain⟨fp,d,i⟩:=h;refine⟨fp,d.save (ze.set _ _ _ _) fun x j a=>?_,i⟩;simp at a;subst a;obtain⟨k,l,q,e⟩:=d.typed x j;rw[q.type f] at e;exact e g
end
section
variable {lo:Nat}{w w':World}{v:Value}{xs:List Value}{b:Nat}{c:Array Value}{M:List Nat}
def QS(w:World)(T:TypeId)(M:List Nat):Prop:=∀b∈M,∃c,Q6 w b c T
theorem QS.own{a:Nat}{e:TypeId}{d n:Nat}(h:w.ownsRow a e d v n xs):QS w e v.ownBlock.toList:=fun _ f=>uW h (yt f)
theorem QS.box{T:TypeId}(h:Q6 w b c T):QS w T [b]:=fun x a=>by simp at a;subst a;exact⟨c,h⟩
theorem yG{a:Nat}{e T:TypeId}{d n:Nat}(h:w.ownsRow a e d v n xs)(hs:ze M w w')(k:QS w T M)(l:e≠T):w'.ownsRow a e d v n xs:=
 yT h hs fun b i j=>by
  obtain⟨c,g⟩:=k b j;obtain⟨m,f⟩:=uW h i;exact l (f.type g)
theorem Q6.saveT{e T:TypeId}(h:Q6 w b c e)(hs:ze M w w')(f:QS w T M)(g:e≠T):Q6 w' b c e:=
 h.save hs fun d=>by
  obtain⟨i,a⟩:=f b d;exact g (h.type a)
theorem yh.saveT{a:Nat}{ts:List zZ}{T:TypeId}(h:yh a w v ts)(hs:ze M w w')(d:QS w T M)(e:284≠T):yh a w' v ts:=⟨yG h.own hs d e,h.len,h.num⟩
theorem uc.saveT{e:Nat}{w w':World}{v:Value}{f:List zu}{T:TypeId}{M:List Nat}(h:uc e w v f)(hs:ze M w w')(l:QS w T M)(m:284≠T)(n:∀b,v.ownBlock=some b->b∉M):uc e w' v f:=by
 obtain⟨g,i,o,j,d⟩:=h;exact⟨g,yT i hs n,o,j,fun k a b=>⟨(d k a b).1,(d k a b).2.1.saveT hs l m,(d k a b).2.2⟩⟩
theorem uc.saveTT{g:Nat}{i:List zu}{T:TypeId}(h:uc g w v i)(hs:ze M w w')(f:QS w T M)(n:284≠T)(d:204≠T):uc g w' v i:=by
 obtain⟨j,l,o,m,e⟩:=h;exact⟨j,yG l hs f d,o,m,fun k a b=>⟨(e k a b).1,(e k a b).2.1.saveT hs f n,(e k a b).2.2⟩⟩
theorem vm.saveT{f:Nat}{w w':World}{tv g i:Value}{r:zr}{T:TypeId}{M:List Nat}(h:vm f w tv g i r)(hs:ze M w w')(d:QS w T M)(e:284≠T)(a:204≠T):vm f w' tv g i r:=⟨h.head.saveT hs d e,h.qc.saveTT hs d e a,h.qp.saveTT hs d e a,h.small⟩
theorem yh.low{a:Nat}{ts:List zZ}(h:yh b w v ts)(d:a<=b):yh a w v ts:=⟨yr h.own d,h.len,h.num⟩
theorem uc.low{a b:Nat}{w:World}{v:Value}{f:List zu}(h:uc b w v f)(e:a<=b):uc a w v f:=by
 obtain⟨g,i,l,j,d⟩:=h;exact⟨g,yr i e,l,j,fun k a b=>⟨(d k a b).1,(d k a b).2.1.low e,(d k a b).2.2⟩⟩
theorem vm.low{a b:Nat}{w:World}{tv f e:Value}{r:zr}(h:vm b w tv f e r)(d:a<=b):vm a w tv f e r:=⟨h.head.low d,h.qc.low d,h.qp.low d,h.small⟩
theorem Q6.up{T:TypeId}(h:Q6 w b c T)(o:Obj):Q6 (w.alloc o) b c T:=h.below ((zo _ _).alloc (zg _) o)
theorem Q6.at'{b':Nat}{T:TypeId}(h:Q6 w b c T)(e:b=b'):Q6 w b' c T:=e ▸ h
theorem Q6.carry{W a:World}{T:TypeId}{G:Prop}(h:Q6 W b c T)(d:μ W a)(k:Q6 a b c T->G):G:=k (h.below d)
end
section
open Go.Proofs.Tryz
variable {lo:Nat}
theorem yQ.saveT{w w':World}{own:Nat->zn}{ρ:zn}{tb:Nat}{T:zi}{t:TypeId}{M:List Nat}(h:yQ lo w own ρ tb T)(hs:ze M w w')(g:QS w t M)(i:Rz t):yQ lo w' own ρ tb T:=by
 obtain⟨f,a,j⟩:=h;refine⟨f,a.save hs fun x k e=>?_,j⟩;obtain⟨c,d⟩:=g x e;obtain⟨l,m,q,b⟩:=a.typed x k;rw[q.type d] at b;exact b i
theorem tD(w:World)(own:Nat->zn)(ρ:zn)(tb:Nat)(T:zi)(x y z m:Nat)(h:yQ lo w own ρ tb T)(a:okT T=true):
  Calls prog 163 #[(π tb),.agg #[ι x,ι y,ι z],ι m] w fun e b=>e=ε (.bool (addP T [x,y,z] m).2)/\yQ lo b (ext own w.heap.size ρ) ρ tb (addP T [x,y,z] m).1/\QC lo (onT (·=ρ)) w own b (ext own w.heap.size ρ):=by
 obtain⟨f,c,i⟩:=h;simp only[okT,ux,decide_eq_true_eq] at a;refine(PC w tb T f x y z m c a.1 a.2).mono ?_;rintro e b ⟨rfl,g,d⟩;exact⟨rfl,d.mod c i⟩
theorem D5(w:World)(own:Nat->zn)(ρ:zn)(tb:Nat)(T:zi)(n:Nat)(rs:List zm)(h:yQ lo w own ρ tb T)(a:rowsG n T=some rs):
  Calls prog 78 #[(π tb)] w fun e d=>∃v,e=.returned v/\QM w.heap.size d v rs/\μ w d:=by
 obtain⟨f,g,_⟩:=h;unfold rowsG at a;cases c:nU n T with
 |none=>rw[c] at a;cases a
 |some b=>
  rw[c] at a;simp only at a;split at a
  ·simp only[zt] at a;subst a;exact Gi w tb T f g n b c (by assumption)
  ·cases a
theorem QM.cell{A:Nat}{w:World}{v:Value}{rs:List zm}(h:QM A w v rs)(k:Nat)(d:k<rs.length):∃g f x y z,v=.slice (some ⟨g,0,none⟩) rs.length f/\g<w.heap.size/\rs[k]=[x,y,z]/\w.cell? ⟨g,k*3,none⟩=some (ι (x:Nat))/\w.cell? ⟨g,k*3+1,none⟩=some (ι (y:Nat))/\w.cell? ⟨g,k*3+2,none⟩=some (ι (z:Nat)):=by
 obtain⟨t,p⟩:=h;obtain⟨g,f,C,_,s,j⟩:=yv t (by omega);obtain⟨x,y,z,e⟩:∃x y z,rs[k]=[x,y,z]:=by
  have:=p rs[k] (zs d);match n:rs[k],this with
  |[x,y,z],_=>exact⟨x,y,z,rfl⟩
 have m:∀(rs:List zm) (k:Nat) (d:k<rs.length),(∀r∈rs,r.length=3)->rs[k]=[x,y,z]->(jG rs)[k*3]?=some (ι x)/\(jG rs)[k*3+1]?=some (ι y)/\(jG rs)[k*3+2]?=some (ι z):=by
  intro rs;induction rs with
  |nil=>intro k d;simp at d
  |cons r l F=>
   intro k d o i;match k,d,i with
   |0,_,i=>simp only[gG] at i;subst i;simp[jG,Rj]
   |k+1,d,i=>
    have u:=o r (by simp);match G:r,u with
    |[a,b,c],_=>
     have:=F k (by simpa using d) (fun q n=>o q (by simp[n])) (by simpa using i);simp only[jG,uw] at this ⊢;rw[show(k+1)*3=k*3+1+1+1 from by omega,show k*3+1+1+1+1=k*3+1+1+1+1 from rfl,show k*3+1+1+1+2=k*3+2+1+1+1 from by omega];simpa using this
 obtain⟨B,E,D⟩:=m rs k d p e;exact⟨g,f,x,y,z,C,s,e,j _ _ B,j _ _ E,j _ _ D⟩
structure jB where
 tv:Value
 bb:Nat
 fb:Nat
 ab:Nat
def pt(b:Nat):Value:=(π b)
def gz(wd:Nat)(V:yA)(P:jB):List Value:=[ι V.lit.pred,P.tv,ι wd,pt P.bb,pt P.fb,pt P.ab]
structure vJ (lo:Nat) (w:World) (own:Nat->zn) (k i:Nat) (V:yA) (P:jB):Prop where
 qg:yh lo w P.tv V.lit.qg
 before:yQ lo w own (k+1,i,0) P.bb V.before
 qo:yQ lo w own (k+1,i,1) P.fb V.qo
 all:yQ lo w own (k+1,i,2) P.ab V.all
theorem vJ.mod{ok:TypeId->zn->Prop}{w w':World}{own a:Nat->zn}{k i:Nat}{V:yA}{P:jB}(h:vJ lo w own k i V P)(p:QC lo ok w own w' a)(b:∀j t,¬Rz t->¬ok t (k+1,i,j))(c:∀ρ,¬ok 284 ρ):vJ lo w' a k i V P:=
 ⟨h.qg.mod p c,h.before.mod p (b 0),h.qo.mod p (b 1),h.all.mod p (b 2)⟩
theorem vJ.below{w w':World}{own:Nat->zn}{k i:Nat}{V:yA}{P:jB}(h:vJ lo w own k i V P)(a:μ w w'):vJ lo w' own k i V P:=h.mod (QC.of (ok:=fun _ _=>False) own a) (fun _ _ _=>id) (fun _=>id)
theorem vJ.saveT{w w':World}{own:Nat->zn}{k i:Nat}{V:yA}{P:jB}{t:TypeId}{M:List Nat}(h:vJ lo w own k i V P)(hs:ze M w w')(a:QS w t M)(b:Rz t)(c:284≠t):vJ lo w' own k i V P:=⟨h.qg.saveT hs a c,h.before.saveT hs a b,h.qo.saveT hs a b,h.all.saveT hs a b⟩
def Kc(lo:Nat)(w:World)(own:Nat->zn)(k i wd:Nat)(tv:Value)(l:zu)(e:Ending)(w':World):Prop:=∃P a,P.tv=tv/\e=ε (.agg (gz wd (kW wd l) P).toArray)/\vJ lo w' a k i (kW wd l) P/\(∀b,b<w.heap.size->a b=own b)/\μ w w'
theorem Bo(l:zu):yO l<=5:=by
 unfold yO;have:=rO (p:=zH l) (l:=List.range 5);simpa using this
theorem Iu(w:World)(own:Nat->zn)(k i:Nat)(l:zu)(tv:Value)(wd:Nat)(h:yh lo w tv l.qg)(hl:lo<=w.heap.size)(aA:wd<=1000):
  Calls prog 204 #[.agg #[ι l.pred,tv],ι wd] w fun e w'=>Kc lo w own k i wd tv l e w':=by
 obtain⟨x,c,rfl⟩:=h.qx;have HD:Hid (∀W,μ w W->Calls prog 212 #[.agg #[ι l.pred,.slice x l.qg.length c]] W fun e w'=>e=ε (ι (yO l:Nat))/\μ W w'):=fun W hW=>Cr W _ l.pred l.qg (h.below hW);have HT:=Q5 h;have aq:Hid (kW wd l=⟨l,yS wd (yO l),yS wd (yO l),yS wd (yO l)⟩):=rfl;have a5:=Bo l;have HN:=Q5 fun W=>e7 W wd (yO l) aA (by omega);have HL:=Q5 hl;clear h hl a5;have U:=Q6.new ((w.alloc (.cells #[ι l.pred,.slice x l.qg.length c] 204)).alloc (.cells #[ι 0,ν,ι 0,.pointer none,.pointer none,.pointer none] 301)) #[ι l.pred,.slice x l.qg.length c,ι wd,.pointer none,.pointer none,.pointer none] 301;have a:=(Q6.new (w.alloc (.cells #[ι l.pred,.slice x l.qg.length c] 204)) #[ι 0,ν,ι 0,.pointer none,.pointer none,.pointer none] 301).below ((zo _ _).alloc (zg _) (.cells #[ι l.pred,.slice x l.qg.length c,ι wd,.pointer none,.pointer none,.pointer none] 301));simp only[World.size_alloc] at U a;generalize yO l=dl at *;go_enter func204,ntmps204;go_upto_region 3 with (go_at_call 212;refine(HD.out _ (by exact(by go_grown))).mono ?_;rintro e w1 ⟨rfl,G⟩;have E:μ w w1:=(zQ (by go_grown) G (zg _));have I:=U.below G;have ar:=a.below G)
 clear U a G;have a4:lo<=w1.heap.size:=by have:=HL.out;have:=E.size;omega
 obtain⟨u,p,r⟩:=I.boxed;have aI:=E.size;have ai:Hid (yh lo w1 _ l.qg):=HT.out.below E;go_upto_region 4 with (go_at_call 119;refine(HN.out _).mono ?_;rintro e S ⟨f,aJ,rfl,au,o⟩;have A:=I.below o;have ab:=ar.below o;obtain⟨ak,ac,an⟩:=A.boxed)
 have K:=(zY.new own (k+1,i,0) au a4).set A (by decide) 3 (pt f);have N:ze [w.heap.size+1+1] S (S.setCell ⟨w.heap.size+1+1,3,none⟩ (pt f)):=ze.set _ _ _ _;have R:Hid (yh lo _ _ l.qg):=(ai.out.below o).saveT N (QS.box A) (by decide);have D:Q6 (S.setCell ⟨w.heap.size+1+1,3,none⟩ (pt f)) (w.heap.size+1+1) #[ι l.pred,.slice x l.qg.length c,ι wd,(π f),.pointer none,.pointer none] 301:=by have q:=A.set 3 (pt f);simpa [pt] using q
 have M:=ab.set_ne (show w.heap.size+1≠w.heap.size+1+1 by omega) 3 (pt f);have P:μ w (S.setCell ⟨w.heap.size+1+1,3,none⟩ (pt f)):=(Q9 E o).setCell (by simp;omega) _;have a1:(S.setCell ⟨w.heap.size+1+1,3,none⟩ (pt f)).heap.size=S.heap.size:=by simp[World.setCell]
 have a6:=o.size;generalize y:ext own w1.heap.size (k+1,i,0)=n at *;have Q:∀b,b<w.heap.size->n b=own b:=fun b hb=>by rw[←y];exact dE _ _ _ _ (by omega)
 have X:pt f=(π f):=rfl;rw[X] at K N R D M P a1;generalize S.setCell ⟨w.heap.size+1+1,3,none⟩ ((π f))=w3 at *;clear y au o A ab ak ac an u p r I ar ai N X;have a3:lo<=w3.heap.size:=by omega
 obtain⟨u,p,r⟩:=D.boxed;go_upto_region 5 with (go_at_call 119;refine(HN.out _).mono ?_;rintro e L ⟨m,aF,rfl,af,a⟩;have t:=D.below a;have ax:=M.below a;obtain⟨am,ag,aw⟩:=t.boxed)
 have ad:=(K.mod (QC.extNew (ok:=fun _ _=>False) n (k+1,i,1) a) (fun _ _=>id)).set t (by decide) 4 ((π m));have aa:=(zY.new n (k+1,i,1) af a3).set t (by decide) 4 ((π m));have av:ze [w.heap.size+1+1] L (L.setCell ⟨w.heap.size+1+1,4,none⟩ ((π m))):=ze.set _ _ _ _;have ap:Hid (yh lo _ _ l.qg):=(R.out.below a).saveT av (QS.box t) (by decide);have T:Q6 (L.setCell ⟨w.heap.size+1+1,4,none⟩ ((π m))) (w.heap.size+1+1) #[ι l.pred,.slice x l.qg.length c,ι wd,(π f),(π m),.pointer none] 301:=by have q:=t.set 4 ((π m));simpa using q
 have al:=ax.set_ne (show w.heap.size+1≠w.heap.size+1+1 by omega) 4 ((π m));have ay:μ w (L.setCell ⟨w.heap.size+1+1,4,none⟩ ((π m))):=(Q9 P a).setCell (by simp;omega) _;have aH:(L.setCell ⟨w.heap.size+1+1,4,none⟩ ((π m))).heap.size=L.heap.size:=by simp[World.setCell]
 have a9:=a.size;generalize B:ext n w3.heap.size (k+1,i,1)=d at *;have O:∀b,b<w.heap.size->d b=own b:=fun b hb=>by rw[←B,dE _ _ _ _ (by omega)];exact Q b hb
 generalize L.setCell ⟨w.heap.size+1+1,4,none⟩ ((π m))=w5 at *;clear B af a t ax am ag aw u p r D M K R av P;have a2:lo<=w5.heap.size:=by omega
 obtain⟨u,p,r⟩:=T.boxed;go_upto_region 6 with (go_at_call 119;refine(HN.out _).mono ?_;rintro e w6 ⟨s,aG,rfl,ae,j⟩;have g:=T.below j;have Z:=al.below j;obtain⟨Y,V,ao⟩:=g.boxed)
 have az:=(ad.mod (QC.extNew (ok:=fun _ _=>False) d (k+1,i,2) j) (fun _ _=>id)).set g (by decide) 5 ((π s));have aD:=(aa.mod (QC.extNew (ok:=fun _ _=>False) d (k+1,i,2) j) (fun _ _=>id)).set g (by decide) 5 ((π s));have aB:=(zY.new d (k+1,i,2) ae a2).set g (by decide) 5 ((π s));have ah:ze [w.heap.size+1+1] w6 (w6.setCell ⟨w.heap.size+1+1,5,none⟩ ((π s))):=ze.set _ _ _ _;have a7:Hid (yh lo _ _ l.qg):=(ap.out.below j).saveT ah (QS.box g) (by decide);have a8:Q6 (w6.setCell ⟨w.heap.size+1+1,5,none⟩ ((π s))) (w.heap.size+1+1) #[ι l.pred,.slice x l.qg.length c,ι wd,(π f),(π m),(π s)] 301:=by have q:=g.set 5 ((π s));simpa using q
 have aj:=Z.set_ne (show w.heap.size+1≠w.heap.size+1+1 by omega) 5 ((π s));have aC:μ w (w6.setCell ⟨w.heap.size+1+1,5,none⟩ ((π s))):=(Q9 ay j).setCell (by simp;omega) _;generalize z:ext d w5.heap.size (k+1,i,2)=H at *;have J:∀b,b<w.heap.size->H b=own b:=fun b hb=>by rw[←z,dE _ _ _ _ (by omega)];exact O b hb
 generalize w6.setCell ⟨w.heap.size+1+1,5,none⟩ ((π s))=w7 at *;clear z ae j g Z Y V ao u p r T al ad aa ap ah ay;obtain⟨u,p,r⟩:=a8.boxed;obtain⟨a0,aE,aK⟩:=aj.boxed;go_wp2
 (try simp only[Exit.inBlock,Exit.then])
 have F:ze [w.heap.size+1] w7 ((((((w7.setCell ⟨w.heap.size+1,0,none⟩ (ι l.pred)).setCell ⟨w.heap.size+1,1,none⟩ (.slice x l.qg.length c)).setCell ⟨w.heap.size+1,2,none⟩ (ι wd)).setCell ⟨w.heap.size+1,3,none⟩ ((π f))).setCell ⟨w.heap.size+1,4,none⟩ ((π m))).setCell ⟨w.heap.size+1,5,none⟩ ((π s))):=(((((ze.set _ _ _ _).trans (ze.set _ _ _ _)).trans (ze.set _ _ _ _)).trans (ze.set _ _ _ _)).trans (ze.set _ _ _ _)).trans (ze.set _ _ _ _);have C:=QS.box aj;refine zL (v:=.agg #[ι l.pred,.slice x l.qg.length c,ι wd,(π f),(π m),(π s)]) (by simp[results,results204,go_sem,a0]) rfl ⟨⟨.slice x l.qg.length c,f,m,s⟩,H,rfl,by rw[aq.out];rfl,?_,J,?_⟩
 ·rw[aq.out];exact⟨a7.out.saveT F C (by decide),az.saveT F C (by decide),aD.saveT F C (by decide),aB.saveT F C (by decide)⟩
 ·exact(((((aC.setCell (by simp) _).setCell (by simp) _).setCell (by simp) _).setCell (by simp) _).setCell (by simp) _).setCell (by simp) _
end
end Go.Proofs.YteampbddflhngaaGreat
