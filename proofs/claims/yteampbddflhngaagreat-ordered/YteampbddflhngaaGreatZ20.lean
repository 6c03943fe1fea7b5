import Derived.Test.YteampbddflhngaaGreatZ13
namespace Go.Proofs.YteampbddflhngaaGreat
set_option linter.all false
set_option maxRecDepth 100000
set_option maxHeartbeats 4000000
open Go.RowKit
section
open Go.Proofs.Tryz
variable {lo:Nat}{w:World}{jb:Nat}
theorem five{α:Type}{l:List α}(h:l.length=5):∃a b c d e,l=[a,b,c,d,e]:=by
 match l,h with
 |[a,b,c,d,e],_=>exact⟨a,b,c,d,e,rfl⟩
abbrev V4:=Value×Value×Value×Value
def fq(t:V4):List Value:=[t.1,t.2.1,t.2.2.1,t.2.2.2]
def yw(a:List V4):List Value:=a.flatMap fq
theorem tq(b:List V4):(yw b).length=b.length*4:=by
 induction b with
 |nil=>rfl
 |cons a l c=>simp[yw,fq] at c ⊢;omega
theorem rG:∀(a:List V4) (k:Nat) (b:k<a.length),(yw a)[k*4]?=some a[k].1/\(yw a)[k*4+1]?=some a[k].2.1/\(yw a)[k*4+2]?=some a[k].2.2.1/\(yw a)[k*4+3]?=some a[k].2.2.2
 |[],k,b=>by simp at b
 |y::r,0,_=>by simp[yw,fq]
 |y::r,k+1,b=>by
  have:=rG r k (by simpa using b);simp only[yw,us,fq] at this ⊢;rw[show(k+1)*4=k*4+1+1+1+1 from by omega,show k*4+1+1+1+1+2=k*4+2+1+1+1+1 from by omega,show k*4+1+1+1+1+3=k*4+3+1+1+1+1 from by omega];simpa using this
def gX(s:yM)(t:Nat×List Nat):V4:=(.pointer (some ⟨t.1,0,none⟩),ι (s.qi.getD 0 0:Nat),ι (s.qi.getD 1 0:Nat),ι (s.qi.getD 2 0:Nat))
def g7(b:tW)(t:Value×Nat×List Nat):V4:=(ι b.lit.pred,t.1,ι b.jd,.pointer (some ⟨t.2.1,0,none⟩))
def ko(hs:List (Nat×Nat)):List Value:=hs.flatMap fun h=>[ι (h.1:Nat),ι (h.2:Nat)]
structure xy where
 tv:Value
 sv:Value
 bv:Value
 hvs:List Value
 tbs:List (Nat×List Nat)
 bps:List (Value×Nat×List Nat)
def uo(J:z9)(P:xy):List Value:=
 [ι J.head.pred,P.tv,ι J.vars,P.sv,P.bv]++P.hvs++J.jg.map (Value.int .i64)++[ι J.last]++J.ja.map Rm++J.from.map Rm++[ι J.ql,ι J.jf]
structure QW (lo:Nat) (w:World) (jb:Nat) (J:z9) (P:xy):Prop where
 low:lo<=jb
 box:Q8 w jb (uo J P).toArray 310
 head:yh lo w P.tv J.head.qg
 qy:w.ownsRow lo 323 4 P.sv J.qy.length (yw (List.zipWith gX J.qy P.tbs))
 slen:P.tbs.length=J.qy.length
 tries:∀k (_:k<J.qy.length) (_:k<P.tbs.length),zY lo w P.tbs[k].1 J.qy[k].rows P.tbs[k].2
 qi:∀s∈J.qy,s.qi.length=3
 bars:w.ownsRow lo 325 4 P.bv J.bars.length (yw (List.zipWith g7 J.bars P.bps))
 blen:P.bps.length=J.bars.length
 ji:∀k (_:k<J.bars.length) (_:k<P.bps.length),yh lo w P.bps[k].1 J.bars[k].lit.qg/\zY lo w P.bps[k].2.1 J.bars[k].rows P.bps[k].2.2
 hlen:P.hvs.length=5/\J.je.length=5
 je:∀p (_:p<J.je.length) (_:p<P.hvs.length),w.ownsRow lo 327 2 P.hvs[p] J.je[p].length (ko J.je[p])/\J.je[p].length<=1000/\∀h∈J.je[p],h.1<=1000000/\h.2<=1000000
 jk:J.jg.length=5/\J.ja.length=5/\J.from.length=5
 few:J.qy.length<=1000/\J.bars.length<=1000/\J.vars<=1000000
theorem zY.notin{tb:Nat}{T:zi}{fp:List Nat}(h:zY lo w tb T fp){b:Nat}{c:Array Value}{t:TypeId}(f:Q8 w b c t)(k:t≠229)(l:t≠273)(j:t≠3):b∉fp:=by
 obtain⟨m,n,d,rfl⟩:=h;intro a;simp only[R8,zx,zI] at a;rcases a with a|a|a
 ·subst a;have q:=d.box;unfold Q8 at q f;rw[f] at q;simp at q;exact k q.2
 ·exact uB d.qi f (Ne.symm l) (yr a) rfl
 ·obtain⟨i,g,e|e⟩:=oj a
  ·exact uB (d.leap i (by rw[←d.len];exact g) g) f (Ne.symm j) (b:=b) (by rw[e];rfl) rfl
  ·exact uB (d.down i (by rw[←d.len];exact g) g) f (Ne.symm j) (b:=b) (by rw[e];rfl) rfl
theorem yh.save{w':World}{v:Value}{ts:List zZ}{N:List Nat}(h:yh lo w v ts)(hs:ze N w w')(a:∀b,v.ownBlock=some b->b∉N):yh lo w' v ts:=⟨yT h.own hs a,h.len,h.num⟩
theorem QW.below{w w':World}{jb:Nat}{J:z9}{P:xy}(h:QW lo w jb J P)(c:μ w w'):QW lo w' jb J P:=
 ⟨h.low,h.box.below c,h.head.below c,zB h.qy c,h.slen,fun k a b=>(h.tries k a b).below c,h.qi,zB h.bars c,h.blen,fun k a b=>⟨(h.ji k a b).1.below c,(h.ji k a b).2.below c⟩,h.hlen,fun p a b=>⟨zB (h.je p a b).1 c,(h.je p a b).2⟩,h.jk,h.few⟩
theorem QW.rebox{w':World}{J c:z9}{P:xy}(h:QW lo w jb J P)(hs:ze [jb] w w')(m:Q8 w' jb (uo c P).toArray 310)(B:c.head=J.head)(f:c.qy=J.qy)(g:c.bars=J.bars)(l:c.je=J.je)(A:c.vars=J.vars)(x:c.jg.length=5/\c.ja.length=5/\c.from.length=5):QW lo w' jb c P:=by
 have i:∀{y:Nat} {e:TypeId} {C:Nat} {v:Value} {t:Nat} {z:List Value},w.ownsRow y e C v t z->e≠310->∀b,v.ownBlock=some b->b∉[jb]:=fun E D b n j=>uB E h.box D n (by simpa using j);have r:∀{s:Nat} {T:zi} {o:List Nat},zY lo w s T o->zY lo w' s T o:=fun q=>q.save hs (fun b u j=>by simp at j;subst j;exact q.notin h.box (by decide) (by decide) (by decide) u);refine⟨h.low,m,by rw[B];exact h.head.save hs (i h.head.own (by decide)),by rw[f];exact yT h.qy hs (i h.qy (by decide)),by rw[f];exact h.slen,fun k a b=>?_,by rw[f];exact h.qi,by rw[g];exact yT h.bars hs (i h.bars (by decide)),by rw[g];exact h.blen,fun k a b=>?_,by rw[l];exact h.hlen,fun p a b=>?_,x,by rw[f,g,A];exact h.few⟩
 ·have d:k<J.qy.length:=by rw[←f];exact a
  simp only[f];exact r (h.tries k d b)
 ·have d:k<J.bars.length:=by rw[←g];exact a
  simp only[g];exact⟨(h.ji k d b).1.save hs (i (h.ji k d b).1.own (by decide)),r (h.ji k d b).2⟩
 ·have d:p<J.je.length:=by rw[←l];exact a
  simp only[l];exact⟨yT (h.je p d b).1 hs (i (h.je p d b).1 (by decide)),(h.je p d b).2⟩
theorem QW.at{J:z9}{P:xy}(h:QW lo w jb J P):jb<w.heap.size/\(∀o,w.frozen? ⟨jb,o,none⟩=false)/\w.cell? ⟨jb,0,none⟩=some (ι J.head.pred)/\w.cell? ⟨jb,1,none⟩=some P.tv/\w.cell? ⟨jb,2,none⟩=some (ι J.vars)/\w.cell? ⟨jb,3,none⟩=some P.sv/\w.cell? ⟨jb,4,none⟩=some P.bv/\w.cell? ⟨jb,15,none⟩=some (ι J.last)/\w.cell? ⟨jb,26,none⟩=some (ι J.ql)/\w.cell? ⟨jb,27,none⟩=some (ι J.jf):=by
 obtain⟨j,c⟩:=h.box.rules;obtain⟨e,d,i⟩:=h.jk;obtain⟨s,v,k,p,C,f⟩:=five h.hlen.1;obtain⟨t,F,n,B,A,g⟩:=five e;obtain⟨m,u,l,r,x,b⟩:=five d;obtain⟨q,D,y,E,z,a⟩:=five i;refine⟨h.box.lt,c,?_,?_,?_,?_,?_,?_,?_,?_⟩<;>rw[j]<;>simp[uo,f,g,b,a]
theorem QW.setMoves{J:z9}{P:xy}(h:QW lo w jb J P)(m:Int):QW lo (w.setCell ⟨jb,27,none⟩ (ι m)) jb {J with jf:=m} P:=by
 obtain⟨e,d,i⟩:=h.jk;refine h.rebox (ze.set _ _ _ _) ?_ rfl rfl rfl rfl rfl h.jk;obtain⟨r,u,j,o,B,f⟩:=five h.hlen.1;obtain⟨s,E,n,A,z,g⟩:=five e;obtain⟨l,t,k,q,v,c⟩:=five d;obtain⟨p,C,x,D,y,b⟩:=five i;have a:=h.box.set 27 (ι m);simpa [uo,f,g,c,b] using a
theorem Fr(w:World)(jb:Nat)(J:z9)(P:xy)(s l:Nat)(h:QW lo w jb J P):
  Calls prog 231 #[(π jb),.agg #[ι s,ι l]] w fun e o=>e=ε (.bool (vG J (s,l)))/\μ w o:=by
 obtain⟨k,m,_,_,_,i,_⟩:=h.at;obtain⟨p,g,j⟩:=zp h.qy;have b:Hid (vG J (s,l)=(decide (s<J.qy.length)&&decide (l<3))):=rfl;generalize J.qy.length=n at *;by_cases c:s<n
 ·by_cases f:l<3
  ·have a:(s:Int)<(n:Int):=by omega
   have d:(l:Int)<3:=by omega
   go_enter func231,ntmps231;go_wp2;go_quiet (fail)
   go_wp2;go_ret;exact⟨by rw[b.out];simp[c,f],zJ (by go_grown) _⟩
  ·have a:(s:Int)<(n:Int):=by omega
   have d:decide ((l:Int)<3)=false:=decide_eq_false (by omega);go_enter func231,ntmps231;go_wp2;go_quiet (fail)
   go_wp2;go_ret;exact⟨by rw[b.out];simp[c,f],zJ (by go_grown) _⟩
 ·have a:decide ((s:Int)<(n:Int))=false:=decide_eq_false (by omega);go_enter func231,ntmps231;go_wp2;go_quiet (fail)
  go_wp2;go_ret;exact⟨by rw[b.out];simp[c],zJ (by go_grown) _⟩
end
section
open Go.Proofs.Tryz
variable {lo:Nat}
theorem QW.side{w:World}{p:Nat}{J:z9}{P:xy}(h:QW lo w p J P)(s l:Nat)(hs:s<J.qy.length)(r:l<3):
  ∃a b m q,P.sv=.slice (some ⟨a,0,none⟩) J.qy.length b/\a<w.heap.size/\a≠p/\w.cell? ⟨a,s*4,none⟩=some ((π m))/\w.cell? ⟨a,s*4+1+l,none⟩=some (ι ((J.qy[s].qi.getD l 0:Nat):Int))/\zY lo w m J.qy[s].rows q/\(∀o,w.frozen? ⟨a,o,none⟩=false):=by
 obtain⟨a,b,f,_,g,d⟩:=yx h.qy (by omega);have e:s<P.tbs.length:=by rw[h.slen];exact hs
 obtain⟨k,j,n,i⟩:=rG (List.zipWith gX J.qy P.tbs) s (by simp;omega);simp only[List.getElem_zipWith,gX] at k j n i;have c:=h.qy;rw[f] at c;refine⟨a,b,P.tbs[s].1,P.tbs[s].2,f,g,uB h.qy h.box (by decide) (by rw[f];rfl),d _ _ k,?_,h.tries s hs e,qO c⟩;obtain rfl|rfl|rfl:l=0∨l=1∨l=2:=by omega
 ·exact d _ _ j
 ·exact d _ _ n
 ·exact d _ _ i
theorem FN(w:World)(b:Nat)(J:z9)(P:xy)(s l f:Nat)(h:QW lo w b J P):
  Calls prog 229 #[(π b),.agg #[ι s,ι l],ι f] w fun e t=>e=ε (qU (vV J (s,l) f).2)/\QW lo t b (vV J (s,l) f).1 P/\ze [b] w t:=by
 have r:=Q7 fun W V=>Fr W b J P s l (h.below V);have L:=Q7 h;cases d:vG J (s,l) with
 |false=>
  have j:Hid (vV J (s,l) f=(J,none)):=by simp[Hid,vV,d]
  go_enter func229,ntmps229;go_wp2_with (go_at_call 231;refine(r.out _ (by exact(by go_grown))).mono ?_;rintro e i ⟨rfl,c⟩;have a:μ w i:=zQ (by go_grown) c (zg _))
  go_ret2
  exact⟨by rw[j.out];rfl,by rw[j.out];exact L.out.below a,ze.of a⟩
 |true=>
  have y:s<J.qy.length/\l<3:=by simpa [vG] using d
  obtain⟨F,Y⟩:=y;have j:Hid (vV J (s,l) f=({J with jf:=IntKind.i64.wrap (J.jf+1)},y5 J.qy[s].rows (J.qy[s].qi.getD l 0) f)):=by simp[Hid,vV,d,List.getD_eq_getElem?_getD,F]
  obtain⟨X,_⟩:=h.at;go_enter func229,ntmps229;go_wp2_with (go_at_call 231;refine(r.out _ (by exact(by go_grown))).mono ?_;rintro e i ⟨rfl,c⟩;have a:μ w i:=zQ (by go_grown) c (zg _);have g:=L.out.below a;obtain⟨Q,O,_,_,_,T,_,_,_,R⟩:=g.at;have p:=(Q8.new w #[ι s,ι l] 327).below c;obtain⟨x,v,ab⟩:=p.boxed;have C:=Q7 g;clear g)
  have D:IntKind.i64.wrap (J.jf+1)=wrap64 (J.jf+1):=by rw[IntKind.wrap_i64];unfold wrap64;rfl
  rw[D] at j;have o:Hid (QW lo (i.setCell ⟨b,27,none⟩ (ι (wrap64 (J.jf+1)))) b {J with jf:=wrap64 (J.jf+1)} P):=C.out.setMoves _;have B:w.heap.size≠b:=by omega
  have m:=p.set_ne B 27 (ι (wrap64 (J.jf+1)));have E:ze [b] w (i.setCell ⟨b,27,none⟩ (ι (wrap64 (J.jf+1)))):=(ze.of a).trans (ze.set _ _ _ _);generalize i.setCell ⟨b,27,none⟩ (ι (wrap64 (J.jf+1)))=I at *;have k:=o.out;obtain⟨S,K,_,_,_,Z,_⟩:=k.at;obtain⟨ac,G,q,u,H,N,_,aa,U,z,_⟩:=k.side s l F Y;obtain⟨x,v⟩:=m.rules;have A:Hid (∀n,Calls prog 167 #[(π q),ι ((J.qy[s].qi.getD l 0:Nat):Int),ι f] (I.drewN n) fun e t=>e=ε (.tuple #[ι (((y5 J.qy[s].rows (J.qy[s].qi.getD l 0) f).getD 0:Nat):Int),.bool (y5 J.qy[s].rows (J.qy[s].qi.getD l 0) f).isSome])/\t=I.drewN n):=fun n=>rF _ q _ u _ f (z.below (zJ (zo _ _) n));generalize J.qy[s].qi.getD l 0=nd at *;go_quiet ((go_at_call 167;exact Calls.quiet_of_same (A.out _)))
  go_wp2;go_ret2
  exact⟨by rw[j.out];rfl,by rw[j.out];exact o.out.below (zJ (zo _ _) _),E.newer (ze.of (M:=[]) (zJ (zo _ _) _)) (by simp)⟩
theorem i3:∀(hs:List (Nat×Nat)) (k:Nat) (a:k<hs.length),(ko hs)[k*2]?=some (ι (hs[k].1:Nat))/\(ko hs)[k*2+1]?=some (ι (hs[k].2:Nat))
 |[],k,a=>by simp at a
 |p::r,0,_=>by simp[ko]
 |p::r,k+1,a=>by
  have:=i3 r k (by simpa using a);simp only[ko,us] at this ⊢;rw[show(k+1)*2=k*2+1+1 from by omega,show k*2+1+1+1=k*2+1+1+1 from rfl];simpa using this
theorem QW.hold{w:World}{j:Nat}{J:z9}{P:xy}(h:QW lo w j J P)(p:Nat)(q:p<5):∃g b,w.cell? ⟨j,5+p,none⟩=some (.slice g (J.je.getD p []).length b)/\(J.je.getD p []).length<=1000/\∀k (o:k<(J.je.getD p []).length),∃a,g=some ⟨a,0,none⟩/\a<w.heap.size/\a≠j/\w.cell? ⟨a,k*2,none⟩=some (ι ((J.je.getD p [])[k].1:Nat))/\w.cell? ⟨a,k*2+1,none⟩=some (ι ((J.je.getD p [])[k].2:Nat)):=by
 have r:p<J.je.length:=by rw[h.hlen.2];exact q
 have v:p<P.hvs.length:=by rw[h.hlen.1];exact q
 have e:J.je.getD p []=J.je[p]:=by simp[List.getD_eq_getElem?_getD,r]
 rw[e];obtain⟨l,u,_⟩:=h.je p r v;obtain⟨g,b,n⟩:=zp l;obtain⟨y,_⟩:=h.box.rules;refine⟨g,b,?_,u,fun k o=>?_⟩
 ·rw[←n,y];obtain⟨B,C,z,A,D,x⟩:=five h.hlen.1;obtain rfl|rfl|rfl|rfl|rfl:p=0∨p=1∨p=2∨p=3∨p=4:=by omega
  all_goals simp[uo,x]
 ·obtain⟨a,m,d,_,i,c⟩:=yx l (by omega);have f:=n.symm.trans d;simp only[Value.slice.injEq] at f;obtain⟨t,s⟩:=i3 J.je[p] k o;exact⟨a,f.1,i,uB l h.box (by decide) (by rw[d];rfl),c _ _ t,c _ _ s⟩
theorem OP(J:z9)(h:Nat×Nat)(f:Nat):(vV J h f).1.je=J.je:=by unfold vV;split<;>rfl
theorem FM(w:World)(x:Nat)(J:z9)(P:xy)(p f n:Nat)(O:z9)(r:Option Nat)(h:QW lo w x J P)(C:dZ n J p f=some (O,r)):
  Calls prog 227 #[(π x),ι p,ι f] w fun e S=>e=ε (qU r)/\QW lo S x O P/\ze [x] w S:=by
 have HJ:=Q7 h;unfold dZ at C;by_cases h5:p≥5
 ·rw[zc (zf h5)] at C;simp only[zt,ya] at C;obtain⟨rfl,rfl⟩:=C;clear h;go_enter func227,ntmps227;go_wp2;go_ret2
  exact⟨rfl,HJ.out,ze.refl _ _⟩
 ·obtain⟨ao,aq,D,Q,ac⟩:=h.hold p (by omega);clear ac;obtain⟨ak,am,_⟩:=h.at;by_cases h0:(J.je.getD p []).length=0
  ·rw[zc (zb h0)] at C;simp only[zt,ya] at C;obtain⟨rfl,rfl⟩:=C;clear h;generalize (J.je.getD p []).length=hn at *;subst h0;go_enter func227,ntmps227;go_wp2;go_ret2
   exact⟨rfl,HJ.out,ze.refl _ _⟩
  ·rw[za (by omega)] at C;have HR:=Q7 C;clear C h;have G:(J.je.getD p []).length>0:=by omega
   obtain⟨d,M⟩:∃d,d=J.je.getD p []:=⟨_,rfl⟩;rw[←M] at HR D Q G;have aa:=Q7 M;clear M;have al:((d.length:Int) == 0)=false:=beq_eq_false_iff_ne.2 (by omega);go_enter func227,ntmps227;go_wp2;go_loopg [8,9,10] n (fun k v8 v9 ab wr=>∃(y:z9) (at' c a:Nat),v8=ι at'/\v9=ι c/\ab=ι a/\Hid (kY k y d at' c a=some (O,r))/\Hid (QW lo wr x y P)/\Hid (y.je=J.je)/\ze [x] w wr/\c<=d.length/\a<d.length)
   case atStart=>exact⟨J,f,0,0,rfl,rfl,rfl,HR,HJ,rfl,ze.refl _ _,by omega,G⟩
   case round=>
    clear D;obtain⟨y,at',c,a,rfl,rfl,rfl,HQ,L,V,u,aj,Z⟩:=hrel;have I:=L.out;obtain⟨af,ah,_⟩:=I.at;obtain⟨ar,ag,D,_,t⟩:=I.hold p (by omega);rw[V.out,←aa.out] at D t;obtain⟨hb,ae,an,ai,au,ap⟩:=t a Z;subst ae;clear t I;cases gk with
    |zero=>have q:=HQ.out;simp[kY] at q
    |succ m=>
     have q:=HQ.out;unfold kY at q;by_cases R:c<d.length
     ·rw[zc R] at q;have eg:d.getD a (0,0)=d[a]:=by simp[List.getD_eq_getElem?_getD,Z]
      rw[eg] at q;have o:Hid (Calls prog 229 #[(π x),.agg #[ι (d[a].1:Nat),ι (d[a].2:Nat)],ι at'] wr fun e S=>e=ε (.tuple #[ι (((vV y d[a] at').2.getD 0:Nat):Int),.bool (vV y d[a] at').2.isSome])/\QW lo S x (vV y d[a] at').1 P/\ze [x] wr S):=FN wr x y P d[a].1 d[a].2 at' L.out;have N:=OP y d[a] at';generalize ad:vV y d[a] at'=lj at *;clear ad;obtain⟨K,r2⟩:=lj;generalize d[a]=hd at *;simp only at q o N;cases r2 with
      |none=>
       simp only[zt,ya] at q;obtain⟨T,X⟩:=q;simp only[gC,g6] at o;have Y:Hid (O=K/\r=none):=⟨T.symm,X.symm⟩;clear T X;go_wp2_with (go_at_call 229;refine o.out.mono ?_;rintro e F ⟨rfl,b,l⟩;have j:=Q7 b;clear b)
       go_ret2
       exact⟨by rw[Y.out.2];rfl,by rw[Y.out.1];exact j.out,u.trans l⟩
      |some v=>
       simp only[ux,kc] at o;have i:Hid (kY m K d (if v>at' then v else at') ((if v>at' then 0 else c)+1) (if a+1≥d.length then 0 else a+1)=some (O,r)):=q;have z:=Q7 (N.trans V.out);have E:Hid (∀W,QW lo W x K P->∃s g,W.cell? ⟨x,5+p,none⟩=some (.slice s d.length g)):=fun W hW=>by
        obtain⟨s,g,q1,_⟩:=hW.hold p (by omega);rw[z.out,←aa.out] at q1;exact⟨s,g,q1⟩
       clear q N;by_cases hv:v>at'
       ·rw[zc hv,zc hv] at i;by_cases U:a+1≥d.length
        ·rw[zc U] at i;go_wp2_with (go_at_call 229;refine o.out.mono ?_;rintro e F ⟨rfl,b,l⟩;have j:=Q7 b;obtain⟨s,g,H⟩:=E.out F b;obtain⟨B,A,_⟩:=b.at;clear b)
         go_roundg m
         case measure=>omega
         case rel=>exact⟨K,v,1,0,rfl,rfl,rfl,i,j,z,u.trans l,by omega,by omega⟩
        ·rw[za U] at i;go_wp2_with (go_at_call 229;refine o.out.mono ?_;rintro e F ⟨rfl,b,l⟩;have j:=Q7 b;obtain⟨s,g,H⟩:=E.out F b;obtain⟨B,A,_⟩:=b.at;clear b)
         go_roundg m
         case measure=>omega
         case rel=>exact⟨K,v,1,a+1,rfl,rfl,by go_num,i,j,z,u.trans l,by omega,by omega⟩
       ·rw[za hv,za hv] at i;by_cases U:a+1≥d.length
        ·rw[zc U] at i;go_wp2_with (go_at_call 229;refine o.out.mono ?_;rintro e F ⟨rfl,b,l⟩;have j:=Q7 b;obtain⟨s,g,H⟩:=E.out F b;obtain⟨B,A,_⟩:=b.at;clear b)
         go_roundg m
         case measure=>omega
         case rel=>exact⟨K,at',c+1,0,rfl,by go_num,rfl,i,j,z,u.trans l,by omega,by omega⟩
        ·rw[za U] at i;go_wp2_with (go_at_call 229;refine o.out.mono ?_;rintro e F ⟨rfl,b,l⟩;have j:=Q7 b;obtain⟨s,g,H⟩:=E.out F b;obtain⟨B,A,_⟩:=b.at;clear b)
         go_roundg m
         case measure=>omega
         case rel=>exact⟨K,at',c+1,a+1,rfl,by go_num,by go_num,i,j,z,u.trans l,by omega,by omega⟩
     ·rw[za R] at q;simp only[zt,ya] at q;obtain⟨T,X⟩:=q;have Y:Hid (O=y/\r=some at'):=⟨T.symm,X.symm⟩;clear T X;go_wp2;go_ret2
      exact⟨by rw[Y.out.2];rfl,by rw[Y.out.1];exact L.out,u⟩
theorem DF:∀(b:List V4) (k:Nat) (_:k<b.length) (u:Value),(yw b).set (k*4+2) u=yw (b.modify k fun y=>(y.1,y.2.1,u,y.2.2.2))
 |[],k,a,_=>by simp at a
 |y::r,0,_,u=>by simp[yw,fq]
 |y::r,k+1,a,u=>by
  have:=DF r k (by simpa using a) u;simp only[yw,us,fq,List.modify_succ_cons] at this ⊢;rw[show(k+1)*4+2=k*4+2+1+1+1+1 from by omega];simpa using this
theorem Ch:∀(b:List V4) (k:Nat) (_:k<b.length) (u:Value),(yw b).set (k*4+3) u=yw (b.modify k fun y=>(y.1,y.2.1,y.2.2.1,u))
 |[],k,a,_=>by simp at a
 |y::r,0,_,u=>by simp[yw,fq]
 |y::r,k+1,a,u=>by
  have:=Ch r k (by simpa using a) u;simp only[yw,us,fq,List.modify_succ_cons] at this ⊢;rw[show(k+1)*4+3=k*4+3+1+1+1+1 from by omega];simpa using this
theorem QW.setNode{w:World}{D:Nat}{J:z9}{P:xy}(h:QW lo w D J P)(s i n:Nat)(hs:s<J.qy.length)(Q:i=1∨i=2){l cap:Nat}(B:P.sv=.slice (some ⟨l,0,none⟩) J.qy.length cap):
  QW lo (w.setCell ⟨l,s*4+1+i,none⟩ (ι n)) D {J with qy:=J.qy.set s {J.qy[s] with qi:=J.qy[s].qi.set i n}} P:=by
 have c:=ze.set w l (s*4+1+i) (ι n);have d:=h.qy;rw[B] at d;have M:s<P.tbs.length:=by rw[h.slen];exact hs
 have f:=h.qi _ (zs hs);have m:∀{I:Nat} {e:TypeId} {N:Nat} {v:Value} {F:Nat} {K:List Value},w.ownsRow I e N v F K->e≠323->∀b,v.ownBlock=some b->b∉[l]:=fun R O b u g=>sW R d O u (by simp at g;rw[g];rfl);obtain⟨o,r⟩:=LV d;have t:∀{E:Nat} {T:zi} {y:List Nat},zY lo w E T y->zY lo (w.setCell ⟨l,s*4+1+i,none⟩ (ι n)) E T y:=fun C=>C.save c (fun b G g=>by simp at g;subst g;exact C.notin (show Q8 w _ o 323 from r) (by decide) (by decide) (by decide) G);refine⟨h.low,h.box.save c (by have:=uB d h.box (by decide) rfl;simpa using Ne.symm this),h.head.save c (m h.head.own (by decide)),?_,by simpa using h.slen,fun k a b=>?_,fun x H=>?_,yT h.bars c (m h.bars (by decide)),h.blen,fun k a b=>⟨(h.ji k a b).1.save c (m (h.ji k a b).1.own (by decide)),t (h.ji k a b).2⟩,h.hlen,fun p a b=>⟨yT (h.je p a b).1 c (m (h.je p a b).1 (by decide)),(h.je p a b).2⟩,h.jk,by simpa using h.few⟩
 ·have z:(yw (List.zipWith gX J.qy P.tbs)).length=J.qy.length*4:=by rw[tq];simp[h.slen]
  have q:=uW d (s*4+1+i) (by omega) (ι n);rw[B];have e:(yw (List.zipWith gX J.qy P.tbs)).set (s*4+1+i) (ι n)=yw (List.zipWith gX (J.qy.set s {J.qy[s] with qi:=J.qy[s].qi.set i n}) P.tbs):=by
   have A:s<(List.zipWith gX J.qy P.tbs).length:=by simp;omega
   rcases Q with rfl|rfl
   ·rw[show s*4+1+1=s*4+2 from by omega,DF _ s A];congr 1;apply kX
    ·simp
    ·intro j S L;by_cases e:s=j
     ·subst e;simp[gX,List.getD_eq_getElem?_getD,f]
     ·simp[e]
   ·rw[show s*4+1+2=s*4+3 from by omega,Ch _ s A];congr 1;apply kX
    ·simp
    ·intro j S L;by_cases e:s=j
     ·subst e;simp[gX,List.getD_eq_getElem?_getD,f]
     ·simp[e]
  rw[e] at q;simpa using q
 ·simp only[fh] at a;simp only[lO];split
  ·rename_i e;subst e;exact t (h.tries s hs b)
  ·exact t (h.tries k a b)
 ·rcases pG H with q|q
  ·exact h.qi x q
  ·subst q;simp[f]
theorem Ic(w:World)(D:Nat)(J:z9)(P:xy)(s l v:Nat)(h:QW lo w D J P)(ap:l<=1000000):
  Calls prog 230 #[(π D),.agg #[ι s,ι l],ι v] w fun e U=>e=ε (.tuple #[])/\QW lo U D (vm v J (s,l)) P/\ze P.sv.ownBlock.toList w U:=by
 have j:=Q7 fun W hW=>Fr W D J P s l (h.below hW);have V:=Q7 h;cases b:vG J (s,l) with
 |false=>
  have T:Hid (vm v J (s,l)=J):=by simp[Hid,vm,b]
  rw[b] at j;clear b h;go_enter func230,ntmps230;go_wp2_with (go_at_call 231;refine(j.out _ (by exact(by go_grown))).mono ?_;rintro e f ⟨rfl,i⟩;have d:μ w f:=zQ (by go_grown) i (zg _))
  (try simp only[Exit.inBlock,Exit.then]);refine zK (results_none rfl _ _ _) rfl ?_
  exact⟨rfl,by rw[T.out];exact V.out.below d,ze.of d⟩
 |true=>
  have aa:s<J.qy.length/\l<3:=by simpa [vG] using b
  obtain⟨F,hl⟩:=aa;by_cases E:l+1≥3
  ·have T:Hid (vm v J (s,l)=J):=by simp[Hid,vm,E]
   rw[b] at j;clear b h;go_enter func230,ntmps230;go_wp2_with (go_at_call 231;refine(j.out _ (by exact(by go_grown))).mono ?_;rintro e f ⟨rfl,i⟩;have d:μ w f:=zQ (by go_grown) i (zg _);have m:=(Q8.new w #[ι s,ι l] 327).below i;obtain⟨y,x,A⟩:=m.boxed)
   (try simp only[Exit.inBlock,Exit.then]);refine zK (results_none rfl _ _ _) rfl ?_
   exact⟨rfl,by rw[T.out];exact V.out.below d,ze.of d⟩
  ·have T:Hid (vm v J (s,l)={J with qy:=J.qy.set s {J.qy[s] with qi:=J.qy[s].qi.set (l+1) ((zG J.qy[s].rows (J.qy[s].qi.getD l 0) v).getD 0)}}):=by simp[Hid,vm,b,E,List.getD_eq_getElem?_getD,F]
   rw[b] at j;have ao:(s:Int)<(J.qy.length:Int):=by omega
   have aq:(l:Int)<3:=by omega
   have al:(l:Int)+1<3:=by omega
   obtain⟨ai,_⟩:=h.at;clear b h;go_enter func230,ntmps230;go_wp2_with (go_at_call 231;refine(j.out _ (by exact(by go_grown))).mono ?_;rintro e f ⟨rfl,i⟩;have d:μ w f:=zQ (by go_grown) i (zg _);have m:=(Q8.new w #[ι s,ι l] 327).below i;obtain⟨y,x,A⟩:=m.boxed)
   have g:=Q7 (V.out.below d);have B:=g.out;obtain⟨r,Q,_,_,_,z,_⟩:=B.at;obtain⟨C,au,tb,fp,k,L,an,ae,X,R,Z⟩:=B.side s l F hl;rw[k] at z;have S:Hid (∀n,Calls prog 130 #[(π tb),ι ((J.qy[s].qi.getD l 0:Nat):Int),ι v] (f.drewN n) fun e U=>e=ε (.tuple #[ι (((zG J.qy[s].rows (J.qy[s].qi.getD l 0) v).getD 0:Nat):Int),.bool (zG J.qy[s].rows (J.qy[s].qi.getD l 0) v).isSome])/\U=f.drewN n):=fun n=>nt _ tb _ fp _ v (R.below (zJ (zo _ _) n));have N:Hid (∀W n,μ f W->QW lo (W.setCell ⟨C,s*4+1+(l+1),none⟩ (ι ((n:Nat):Int))) D {J with qy:=J.qy.set s {J.qy[s] with qi:=J.qy[s].qi.set (l+1) n}} P):=fun W n hW=>(g.out.below hW).setNode s (l+1) n F (by omega) k;have ad:Hid (P.sv.ownBlock.toList=[C]):=by rw[Hid,k];rfl
   have t:∃u,f.cell? ⟨C,s*4+1+(l+1),none⟩=some u:=by
    obtain⟨ag,K,Y,ab,a,_,_,_,q,_⟩:=g.out.side s (l+1) F (by omega);rw[k] at a;simp only[Value.slice.injEq,zt,Addr.mk.injEq] at a;obtain⟨⟨rfl,_⟩,_⟩:=a;exact⟨_,q⟩
   obtain⟨u,G⟩:=t;clear R B;generalize (zG J.qy[s].rows (J.qy[s].qi.getD l 0) v).getD 0=dn at *;generalize (zG J.qy[s].rows (J.qy[s].qi.getD l 0) v).isSome=ds at *;generalize J.qy[s].qi.getD l 0=nd at *;go_quiet ((go_at_call 130;exact Calls.quiet_of_same (S.out _)))
   have c:μ f (f.drewN nq):=zJ (zo _ _) _;clear y x A r Q Z S;have ah:=(c.cell (p:=⟨D,3,none⟩) (g.out.box.lt)).trans z;have am:=zl c L G;have H:=m.below c;have I:=N.out _ dn c;have aj:∀o,(f.drewN nq).frozen? ⟨C,o,none⟩=false:=by
    obtain⟨ag,K,Y,ab,a,_,_,_,_,_,q⟩:=(g.out.below c).side s l F hl;rw[k] at a;simp only[Value.slice.injEq,zt,Addr.mk.injEq] at a;obtain⟨⟨rfl,_⟩,_⟩:=a;exact q
   have af:ze [C] w (f.drewN nq):=ze.of (QB d c);have ak:=xP L c.size;have r:=xP g.out.box.lt c.size;have ar:C≠w.heap.size:=fun e=>by
    have O:=g.out.qy;rw[k] at O;exact uB O m (by decide) rfl e
   generalize f.drewN nq=w2 at *;have ac:=Q7 I;clear I N z G ae X m V j;obtain⟨y,x,A⟩:=H.boxed;go_wp2;go_region
   all_goals
    go_wp2;go_end0
    exact⟨rfl,by rw[T.out];exact ac.out.below (zo _ _).drew,by rw[ad.out];exact(af.trans (ze.set _ _ _ _)).newer (ze.of (M:=[]) (zo _ _).drew) (by simp)⟩
end
section
open Go.Proofs.Tryz
variable {lo:Nat}{w:World}{jb:Nat}{J:z9}{P:xy}
theorem QW.hold2(h:QW lo w jb J P)(p:Nat)(q:p<5):∃d a,P.hvs[p]?=some (.slice d (J.je.getD p []).length a)/\w.cell? ⟨jb,5+p,none⟩=some (.slice d (J.je.getD p []).length a)/\(J.je.getD p []).length<=1000/\(∀k (l:k<(J.je.getD p []).length),∃b,d=some ⟨b,0,none⟩/\b<w.heap.size/\w.cell? ⟨b,k*2,none⟩=some (ι ((J.je.getD p [])[k].1:Nat))/\w.cell? ⟨b,k*2+1,none⟩=some (ι ((J.je.getD p [])[k].2:Nat))/\(J.je.getD p [])[k].2<=1000000):=by
 have s:p<J.je.length:=by rw[h.hlen.2];exact q
 have o:p<P.hvs.length:=by rw[h.hlen.1];exact q
 have e:J.je.getD p []=J.je[p]:=by simp[List.getD_eq_getElem?_getD,s]
 rw[e];obtain⟨r,v,g⟩:=h.je p s o;obtain⟨d,a,i⟩:=zp r;obtain⟨y,_⟩:=h.box.rules;refine⟨d,a,by rw[yp o,i],?_,v,fun k l=>?_⟩
 ·rw[←i,y];obtain⟨B,C,z,A,D,x⟩:=five h.hlen.1;obtain rfl|rfl|rfl|rfl|rfl:p=0∨p=1∨p=2∨p=3∨p=4:=by omega
  all_goals simp[uo,x]
 ·obtain⟨b,n,m,_,j,c⟩:=yx r (by omega);have f:=i.symm.trans m;simp only[Value.slice.injEq] at f;obtain⟨u,t⟩:=i3 J.je[p] k l;exact⟨b,f.1,j,c _ _ u,c _ _ t,(g _ (zs l)).2⟩
def g4(J:z9)(p v:Nat):z9:={J with ja:=J.ja.set p v,«from»:=(if p+1<5 then(J.from.set p (v+1)).set (p+1) 0 else J.from.set p (v+1))}
theorem HY(J:z9)(p v:Nat)(a:p<5):ug J p v=(J.je.getD p []).foldl (vm v) (g4 J p v):=by unfold ug;rw[za (by omega)];rfl
theorem QW.setVal(h:QW lo w jb J P)(p v:Nat)(g:p+1<5):QW lo (((w.setCell ⟨jb,16+p,none⟩ (ι v)).setCell ⟨jb,21+p,none⟩ (ι ((v:Int)+1))).setCell ⟨jb,21+(p+1),none⟩ (ι 0)) jb (g4 J p v) P:=by
 obtain⟨b,a,c⟩:=h.jk;refine h.rebox (((ze.set _ _ _ _).trans (ze.set _ _ _ _)).trans (ze.set _ _ _ _)) ?_ rfl rfl rfl rfl rfl (by simp[g4,g,b,a,c]);obtain⟨s,x,k,o,D,i⟩:=five h.hlen.1;obtain⟨t,G,n,C,B,j⟩:=five b;obtain⟨m,u,l,r,y,f⟩:=five a;obtain⟨q,E,z,F,A,e⟩:=five c;have d:=((h.box.set (16+p) (ι v)).set (21+p) (ι ((v:Int)+1))).set (21+(p+1)) (ι 0);obtain rfl|rfl|rfl|rfl:p=0∨p=1∨p=2∨p=3:=by omega
 all_goals simpa [uo,g4,i,j,f,e,Rm] using d
theorem QW.setVal4(h:QW lo w jb J P)(p v:Nat)(z:p<5)(E:¬p+1<5):QW lo ((w.setCell ⟨jb,16+p,none⟩ (ι v)).setCell ⟨jb,21+p,none⟩ (ι ((v:Int)+1))) jb (g4 J p v) P:=by
 obtain rfl:p=4:=by omega
 obtain⟨b,a,c⟩:=h.jk;refine h.rebox ((ze.set _ _ _ _).trans (ze.set _ _ _ _)) ?_ rfl rfl rfl rfl rfl (by simp[g4,b,a,c]);obtain⟨r,u,j,n,D,g⟩:=five h.hlen.1;obtain⟨s,H,m,C,B,i⟩:=five b;obtain⟨l,t,k,q,x,f⟩:=five a;obtain⟨o,F,y,G,A,e⟩:=five c;have d:=(h.box.set (16+4) (ι v)).set (21+4) (ι ((v:Int)+1));simpa [uo,g4,g,i,f,e,Rm] using d
theorem Po(v:Nat)(J:z9)(h:Nat×Nat):(vm v J h).je=J.je:=by unfold vm;split<;>rfl
theorem F5(v:Nat):∀(hs:List (Nat×Nat)) (J:z9),(hs.foldl (vm v) J).je=J.je
 |[],J=>rfl
 |h::r,J=>by rw[ut,F5 v r,Po]
theorem QW.vals(h:QW lo w jb J P)(p:Nat)(y:p<5):w.cell? ⟨jb,16+p,none⟩=some (ι (J.ja.getD p 0:Nat))/\w.cell? ⟨jb,21+p,none⟩=some (ι (J.from.getD p 0:Nat))/\w.cell? ⟨jb,10+p,none⟩=some (ι (J.jg.getD p 0)):=by
 obtain⟨a,_⟩:=h.box.rules;obtain⟨e,d,i⟩:=h.jk;obtain⟨r,u,j,n,C,f⟩:=five h.hlen.1;obtain⟨s,F,m,B,A,g⟩:=five e;obtain⟨l,t,k,q,v,c⟩:=five d;obtain⟨o,D,x,E,z,b⟩:=five i;rw[a,a,a];obtain rfl|rfl|rfl|rfl|rfl:p=0∨p=1∨p=2∨p=3∨p=4:=by omega
 all_goals simp[uo,f,g,c,b,Rm]
theorem Ox(w:World)(jb:Nat)(J:z9)(P:xy)(p v:Nat)(h:QW lo w jb J P)(hv:v<=1000000):
  Calls prog 228 #[(π jb),ι p,ι v] w fun e n=>e=ε (.tuple #[])/\QW lo n jb (ug J p v) P/\ze (jb::P.sv.ownBlock.toList) w n:=by
 have HJ:=Q7 h;by_cases H:p<5
 ·have A:=Q7 (HY J p v H);obtain⟨E,F,_⟩:=h.at;obtain⟨o,y,_⟩:=h.vals p H;by_cases L:p+1<5;obtain⟨_,B,_⟩:=h.vals (p+1) L;have K:(p:Int)<5:=by omega
  have C:(p:Int)+1<5:=by omega
  have g:=h.setVal p v L;have r:ze [jb] w (((w.setCell ⟨jb,16+p,none⟩ (ι v)).setCell ⟨jb,21+p,none⟩ (ι ((v:Int)+1))).setCell ⟨jb,21+(p+1),none⟩ (ι 0)):=((ze.set _ _ _ _).trans (ze.set _ _ _ _)).trans (ze.set _ _ _ _);clear h;go_enter func228,ntmps228;go_upto_region 5 with fail
  clear o y B;generalize (((w.setCell ⟨jb,16+p,none⟩ (ι v)).setCell ⟨jb,21+p,none⟩ (ι ((v:Int)+1))).setCell ⟨jb,21+(p+1),none⟩ (ι 0))=w1 at *;rotate_left
  have K:(p:Int)<5:=by omega
  have C:¬(p:Int)+1<5:=by omega
  have g:=h.setVal4 p v H L;have r:ze [jb] w ((w.setCell ⟨jb,16+p,none⟩ (ι v)).setCell ⟨jb,21+p,none⟩ (ι ((v:Int)+1))):=(ze.set _ _ _ _).trans (ze.set _ _ _ _);clear h;go_enter func228,ntmps228;go_upto_region 5 with fail
  clear o y;generalize ((w.setCell ⟨jb,16+p,none⟩ (ι v)).setCell ⟨jb,21+p,none⟩ (ι ((v:Int)+1)))=w1 at *
  all_goals
   have j:=Q7 g;clear g E F;obtain⟨ao,ab,b,f,d,_⟩:=j.out.hold2 p (by omega);obtain⟨t,s,_⟩:=j.out.at;rw[show(g4 J p v).je=J.je from rfl] at b f d;obtain⟨a,l⟩:∃a,a=J.je.getD p []:=⟨_,rfl⟩;rw[←l] at b f d A;have S:=Q7 l;have O:=Q7 b;clear l b;go_wp2;clear f t s;generalize decide ((p:Int)<0)=ac;generalize decide ((5:Int)<=(p:Int))=ad;go_loopw [43] (fun I wr=>∃k:Nat,k<=a.length/\I=ι k/\Hid (QW lo wr jb ((a.take k).foldl (vm v) (g4 J p v)) P)/\ze (jb::P.sv.ownBlock.toList) w wr) (fun i _=>a.length-(intOf i).toNat)
   case atStart=>exact⟨0,zv _,rfl,j,r.more (by simp)⟩
   case round=>
    obtain⟨k,hk,rfl,c,q⟩:=hrel;by_cases u:k<a.length
    ·obtain⟨U,T,z,_,_,N⟩:=c.out.hold2 p (by omega);rw[F5,show(g4 J p v).je=J.je from rfl,←S.out] at z N;rw[O.out] at z;simp only[zt,Value.slice.injEq] at z;obtain⟨rfl,_,rfl⟩:=z;obtain⟨hb,rfl,Z,X,aa,R⟩:=N k u;have HS:=Q7 (rS a (vm v) (g4 J p v) k u);have HD:Hid (∀W,μ wr W->Calls prog 230 #[(π jb),.agg #[ι (a[k].1:Nat),ι (a[k].2:Nat)],ι v] W fun e n=>e=ε (.tuple #[])/\QW lo n jb (vm v ((a.take k).foldl (vm v) (g4 J p v)) a[k]) P/\ze P.sv.ownBlock.toList W n):=fun W Y=>Ic W jb _ P a[k].1 a[k].2 v (c.out.below Y) R;clear N;generalize (a.take k).foldl (vm v) (g4 J p v)=Jk at *;generalize a[k]=hd at *;go_wp2_with (go_at_call 230;refine(HD.out _ (by exact(by go_grown))).mono ?_;rintro e w2 ⟨rfl,m,G⟩;have D:=Q7 m;clear m;have Q:=(ze.of (M:=P.sv.ownBlock.toList) (show μ wr _ from(by go_grown))).trans G)
     go_roundw
     ·exact⟨k+1,by omega,by go_num,by rw[HS.out];exact D.out,q.trans (Q.more (fun x V=>pE _ V))⟩
     ·simp[intOf];omega
    ·obtain rfl:k=a.length:=by omega
     rw[vr] at c;go_wp2;go_end0
     exact⟨rfl,by rw[A.out];exact c.out,q⟩
 ·have A:Hid (ug J p v=J):=by unfold ug;rw[Hid,zc (by omega)]
  clear h;go_enter func228,ntmps228;go_wp2
  (try simp only[Exit.inBlock,Exit.then]);refine zK (results_none rfl _ _ _) rfl ?_
  exact⟨rfl,by rw[A.out];exact HJ.out,ze.refl _ _⟩
end
section
open Go.Proofs.Tryz
variable {lo:Nat}
theorem QW.bar{w:World}{u:Nat}{J:z9}{P:xy}(h:QW lo w u J P)(k:Nat)(q:k<J.bars.length):
  ∃c d b a p s,P.bv=.slice (some ⟨c,0,none⟩) J.bars.length d/\c<w.heap.size/\w.cell? ⟨c,k*4,none⟩=some (ι (J.bars[k].lit.pred:Nat))/\w.cell? ⟨c,k*4+1,none⟩=some (.slice b J.bars[k].lit.qg.length a)/\w.cell? ⟨c,k*4+2,none⟩=some (ι (J.bars[k].jd:Nat))/\w.cell? ⟨c,k*4+3,none⟩=some ((π p))/\yh lo w (.slice b J.bars[k].lit.qg.length a) J.bars[k].lit.qg/\zY lo w p J.bars[k].rows s:=by
 obtain⟨c,d,r,_,j,f⟩:=yx h.bars (by omega);have i:k<P.bps.length:=by rw[h.blen];exact q
 obtain⟨n,g,o,m⟩:=rG (List.zipWith g7 J.bars P.bps) k (by simp;omega);simp only[List.getElem_zipWith,g7] at n g o m;obtain⟨l,t⟩:=h.ji k q i;obtain⟨b,a,e⟩:=l.qx;rw[e] at g l;exact⟨c,d,b,a,_,_,r,j,f _ _ n,f _ _ g,f _ _ o,f _ _ m,l,t⟩
theorem O9(l:zu)(vals:List Nat):zF l vals=[Q9 l vals 0,Q9 l vals 1,Q9 l vals 2]:=rfl
theorem A5(w:World)(m:Nat)(J:z9)(P:xy)(l:Nat)(h:QW lo w m J P):
  Calls prog 223 #[(π m),ι l] w fun e n=>e=ε (.bool (uH J l))/\μ w n:=by
 have HJ:=Q7 h;obtain⟨C,D,_,_,_,_,L,_⟩:=h.at;obtain⟨aD,a3,I⟩:=zp h.bars;rw[I] at L;obtain⟨a,b,c,d,e,s⟩:=five h.jk.2.1;have a1:=h.few.2.1;have HV:Hid (∀W,QW lo W m J P->W.cell? ⟨m,16,none⟩=some (ι a)/\W.cell? ⟨m,17,none⟩=some (ι b)/\W.cell? ⟨m,18,none⟩=some (ι c)/\W.cell? ⟨m,19,none⟩=some (ι d)/\W.cell? ⟨m,20,none⟩=some (ι e)):=fun W p=>by
  have q0:=(p.vals 0 (by omega)).1;have q1:=(p.vals 1 (by omega)).1;have q2:=(p.vals 2 (by omega)).1;have q3:=(p.vals 3 (by omega)).1;have q4:=(p.vals 4 (by omega)).1;rw[s] at q0 q1 q2 q3 q4;exact⟨q0,q1,q2,q3,q4⟩
 have HE:Hid (uH J l=J.bars.any (fun x=>x.jd == l&&(uq x.rows [Q9 x.lit [a,b,c,d,e] 0,Q9 x.lit [a,b,c,d,e] 1,Q9 x.lit [a,b,c,d,e] 2]).isSome)):=by
  rw[Hid];unfold uH;rw[s];rfl
 clear h;go_enter func223,ntmps223;go_wp2;clear L C D;go_loopw [15] (fun ax wr=>∃k:Nat,k<=J.bars.length/\ax=ι k/\Hid ((J.bars.take k).any (fun x=>x.jd == l&&(uq x.rows [Q9 x.lit [a,b,c,d,e] 0,Q9 x.lit [a,b,c,d,e] 1,Q9 x.lit [a,b,c,d,e] 2]).isSome)=false)/\μ w wr) (fun i _=>J.bars.length-(intOf i).toNat)
 case atStart=>exact⟨0,zv _,rfl,rfl,zo _ _⟩
 case round=>
  obtain⟨k,hk,rfl,HA,j⟩:=hrel;have V:=j.size;by_cases G:k<J.bars.length
  ·have v:=HJ.out.below j;obtain⟨C,D,_⟩:=v.at;obtain⟨az,au,al,am,ah⟩:=HV.out wr v;obtain⟨gb,aK,o,g,M,fp,t,aG,av,an,aw,ao,hT,N⟩:=v.bar k G;rw[I] at t;simp only[Value.slice.injEq] at t;obtain⟨rfl,_,rfl⟩:=t;have HS:Hid ((J.bars.take (k+1)).any (fun x=>x.jd == l&&(uq x.rows [Q9 x.lit [a,b,c,d,e] 0,Q9 x.lit [a,b,c,d,e] 1,Q9 x.lit [a,b,c,d,e] 2]).isSome)=((J.bars.take k).any (fun x=>x.jd == l&&(uq x.rows [Q9 x.lit [a,b,c,d,e] 0,Q9 x.lit [a,b,c,d,e] 1,Q9 x.lit [a,b,c,d,e] 2]).isSome)||(J.bars[k].jd == l&&(uq J.bars[k].rows [Q9 J.bars[k].lit [a,b,c,d,e] 0,Q9 J.bars[k].lit [a,b,c,d,e] 1,Q9 J.bars[k].lit [a,b,c,d,e] 2]).isSome))):=Rw J.bars _ k G;have ad:Hid ((J.bars[k].jd == l&&(uq J.bars[k].rows [Q9 J.bars[k].lit [a,b,c,d,e] 0,Q9 J.bars[k].lit [a,b,c,d,e] 1,Q9 J.bars[k].lit [a,b,c,d,e] 2]).isSome)=true->uH J l=true):=fun q=>by rw[HE.out];exact Fo J.bars _ k G q
   have a0:Hid (∀W,μ wr W->Calls prog 161 #[.agg #[ι (J.bars[k].lit.pred:Nat),.slice o J.bars[k].lit.qg.length g],.agg #[ι a,ι b,ι c,ι d,ι e]] W fun r n=>r=ε (.agg #[ι ((Q9 J.bars[k].lit [a,b,c,d,e] 0:Nat):Int),ι ((Q9 J.bars[k].lit [a,b,c,d,e] 1:Nat):Int),ι ((Q9 J.bars[k].lit [a,b,c,d,e] 2:Nat):Int)])/\μ W n):=fun W p=>eD W _ J.bars[k].lit.pred J.bars[k].lit.qg a b c d e (hT.below p);have S:Hid (∀W x y z,μ wr W->Calls prog 83 #[(π M),.agg #[ι ((x:Nat):Int),ι ((y:Nat):Int),ι ((z:Nat):Int)]] W fun r n=>r=ε (.tuple #[ι (((uq J.bars[k].rows [x,y,z]).getD 0:Nat):Int),.bool (uq J.bars[k].rows [x,y,z]).isSome])/\μ W n):=fun W x y z p=>NV W M _ fp x y z (N.below p);clear hT N v;generalize J.bars[k]=f at *;generalize Q9 f.lit [a,b,c,d,e] 0=X at *;generalize Q9 f.lit [a,b,c,d,e] 1=Z at *;generalize Q9 f.lit [a,b,c,d,e] 2=Y at *;by_cases T:f.jd=l
   ·subst T;have R:=Q7 fun W p=>S.out W X Z Y p;clear S;generalize (uq f.rows [X,Z,Y]).getD 0=mg at *;generalize (uq f.rows [X,Z,Y]).isSome=ms at *;have ar:((f.jd:Int) == (f.jd:Int))=true:=beq_self_eq_true _;have B:=Q8.new wr #[ι f.lit.pred,.slice o f.lit.qg.length g,ι f.jd,(π M)] 325;have A:μ wr (wr.alloc (.cells #[ι f.lit.pred,.slice o f.lit.qg.length g,ι f.jd,(π M)] 325)):=(zo _ _).alloc (zg _) _;have E:=HJ.out.below (QB j A);obtain⟨a2,a5,_⟩:=E.at;obtain⟨aj,ae,aa,aq,ap⟩:=HV.out _ E;clear E;go_wp2;generalize wr.alloc (.cells #[ι f.lit.pred,.slice o f.lit.qg.length g,ι f.jd,(π M)] 325)=wA at *;clear av an aw ao az au al am ah C D;obtain⟨aH,aE,aJ⟩:=B.boxed;have aL:=A.size;go_region_held3 (fun n=>n.cell? ⟨wr.heap.size,0,none⟩=some (ι f.lit.pred)/\n.cell? ⟨wr.heap.size,1,none⟩=some (.slice o f.lit.qg.length g)/\n.cell? ⟨m,16,none⟩=some (ι a)/\n.cell? ⟨m,17,none⟩=some (ι b)/\n.cell? ⟨m,18,none⟩=some (ι c)/\n.cell? ⟨m,19,none⟩=some (ι d)/\n.cell? ⟨m,20,none⟩=some (ι e)) (first|go_keep|(go_simp;done)) (first|(go_at_call 161;refine(a0.out _ (by exact(by go_grown))).mono ?_;rintro r w2 ⟨rfl,Q⟩;have u:μ wA w2:=(zQ (by go_grown) Q (zg _));have K:=B.below u;obtain⟨aC,a8,a4⟩:=K.boxed;have aF:=u.size;have U:=HJ.out.below (QB (QB j A) u);obtain⟨a9,aB,_⟩:=U.at;obtain⟨af,ai,ac,ab,ak⟩:=HV.out w2 U;try (have ay:=(show Q8 ((wA.alloc (.cells #[ι 0,ι 0,ι 0] 165)).drew) wA.heap.size #[ι 0,ι 0,ι 0] 165 from Q8.drew (Q8.new _ _ _)).below Q;obtain⟨aA,a7,a6⟩:=ay.boxed)))
    all_goals
     have aI:=QB A u;clear af ai ac ab ak aj ae aa aq ap;cases ms with
     |true=>
      have ag:=Q7 (ad.out (by simp));go_wp2_with (go_at_call 83;refine(R.out _ (by exact(by go_grown))).mono ?_;rintro r w3 ⟨rfl,F⟩;have H:μ wr w3:=(zQ (by go_grown) F (zg _)))
      go_ret;exact⟨by rw[ag.out];rfl,QB j H⟩
     |false=>
      have O:Hid ((J.bars.take (k+1)).any (fun x=>x.jd == f.jd&&(uq x.rows [Q9 x.lit [a,b,c,d,e] 0,Q9 x.lit [a,b,c,d,e] 1,Q9 x.lit [a,b,c,d,e] 2]).isSome)=false):=by rw[Hid,HS.out,HA.out];simp
      go_wp2_with (go_at_call 83;refine(R.out _ (by exact(by go_grown))).mono ?_;rintro r w3 ⟨rfl,F⟩;have H:μ wr w3:=(zQ (by go_grown) F (zg _)))
      go_roundw
      ·exact⟨k+1,by omega,by go_num,O,QB j H⟩
      ·simp[intOf];omega
   ·have O:Hid ((f.jd == l&&(uq f.rows [X,Z,Y]).isSome)=false):=by rw[Hid,beq_eq_false_iff_ne.2 T];rfl
    have ar:((f.jd:Int) == (l:Int))=false:=beq_eq_false_iff_ne.2 (by omega);go_wp2;go_roundw
    ·exact⟨k+1,by omega,by go_num,by rw[HS.out,HA.out,O.out];rfl,j.alloc V _⟩
    ·simp[intOf];omega
  ·have O:Hid (uH J l=false):=by
    rw[Hid,HE.out];have q:=HA.out;rw[xg (by omega)] at q;exact q
   go_wp2;go_ret;exact⟨by rw[O.out];rfl,j⟩
end
section
open Go.Proofs.Tryz
variable {lo:Nat}{J:z9}
def RE(J:z9):Prop:=∀s∈J.qy,s.rows.qf<=1000
theorem QW.narrow{w:World}{d:Nat}{P:xy}(h:QW lo w d J P):RE J:=by
 intro s b;obtain⟨k,a,rfl⟩:=qk b;obtain⟨e,f,c,_⟩:=h.tries k a (by rw[h.slen];exact a);exact c.wide
theorem NP(h:RE J)(b:Nat×Nat)(f:Nat):RE (vV J b f).1/\∀v,(vV J b f).2=some v->v<=1000/\f<=1000:=by
 unfold vV;split
 ·rename_i d;refine⟨h,fun v a=>?_⟩;have c:b.1<J.qy.length:=by simp[vG] at d;exact d.1
  have e:J.qy.getD b.1 yM.zero=J.qy[b.1]:=by simp[List.getD_eq_getElem?_getD,c]
  simp only[e] at a;have g:=h _ (zs c);have j:=td a;have i:f<J.qy[b.1].rows.qf:=by
   unfold y5 at a;split at a
   ·rename_i q;exact q.2
   ·cases a
  omega
 ·exact⟨h,fun v a=>by cases a⟩
theorem Fw:∀(n:Nat) (J:z9) (hs:List (Nat×Nat)) (a c b:Nat) (e:z9) (v:Nat),RE J->(c<hs.length∨a<=1000)->kY n J hs a c b=some (e,some v)->v<=1000
 |0,_,_,_,_,_,_,_,_,_,h=>by simp[kY] at h
 |n+1,J,hs,a,c,b,e,v,i,l,h=>by
  unfold kY at h;by_cases d:c<hs.length
  ·rw[zc d] at h;obtain⟨m,j⟩:=NP i (hs.getD b (0,0)) a;generalize vV J (hs.getD b (0,0)) a=k at *;obtain⟨f,g⟩:=k;cases g with
   |none=>simp at h
   |some u=>
    obtain⟨p,o⟩:=j u rfl;refine Fw n f hs _ _ _ e v m (zb ?_) h;split<;>omega
  ·rw[za d] at h;simp only[zt,ya] at h;obtain⟨_,rfl⟩:=h;omega
theorem PR{n:Nat}{a:z9}{p f v:Nat}(c:RE J)(h:dZ n J p f=some (a,some v)):v<=1000:=by
 unfold dZ at h;by_cases b:p≥5∨(J.je.getD p []).length=0
 ·rw[zc b] at h;simp at h
 ·rw[za b] at h;exact Fw n J _ f 0 0 a v c (zf (by omega)) h
theorem Pa(w:World)(f:Nat)(J:z9)(P:xy)(n:Nat)(C:z9)(b:Bool)(h:QW lo w f J P)(X:jn n J J.ql=some (C,b)):
  Calls prog 224 #[(π f)] w fun e z=>e=ε (.bool b)/\QW lo z f C P/\ze (f::P.sv.ownBlock.toList) w z:=by
 have HJ:=Q7 h;have HR:=Q7 X;obtain⟨G,H,_,_,_,_,_,_,I,_⟩:=h.at;clear h X;go_enter func224,ntmps224;go_wp2;clear I G H;go_loopg [3] n (fun k v3 wr=>∃(j:z9) (o:Int),v3=ι o/\Hid (jn k j o=some (C,b))/\Hid (QW lo wr f j P)/\ze (f::P.sv.ownBlock.toList) w wr)
 case atStart=>exact⟨J,J.ql,rfl,HR,HJ,ze.refl _ _⟩
 case round=>
  obtain⟨j,o,rfl,T,c,l⟩:=hrel;obtain⟨G,H,_,_,ac,_⟩:=c.out.at;have ab:=c.out.few.2.2;cases gk with
  |zero=>have q:=T.out;simp[jn] at q
  |succ m=>
   have q:=T.out;unfold jn at q;by_cases d:0<=o/\o<j.vars/\o<5
   ·rw[zc d] at q;obtain⟨d1,d2,d3⟩:=d;obtain⟨p,rfl⟩:∃p:Nat,o=p:=⟨o.toNat,by omega⟩;have K:p<5:=by omega
    simp only[Int.toNat_natCast] at q;obtain⟨_,ad,aa⟩:=c.out.vals p K;cases B:dZ m j p (j.from.getD p 0) with
    |none=>rw[B] at q;cases q
    |some Z=>
     obtain⟨g,L⟩:=Z;rw[B] at q;have s:Hid (Calls prog 227 #[(π f),ι p,ι ((j.from.getD p 0:Nat):Int)] wr fun e z=>e=ε (.tuple #[ι ((L.getD 0:Nat):Int),.bool L.isSome])/\QW lo z f g P/\ze [f] wr z):=FM wr f j P p _ m g L c.out B;cases L with
     |none=>
      simp only[gC,g6] at s;have i:Hid (jn m g (g.jg.getD p 0)=some (C,b)):=q;clear q B;generalize j.from.getD p 0=fr at *;go_wp2_with (go_at_call 227;refine s.out.mono ?_;rintro e O ⟨rfl,a,x⟩;have u:=Q7 a;obtain⟨Y,Q,_⟩:=a.at;obtain⟨_,_,R⟩:=a.vals p K;clear a)
      go_roundg m
      case measure=>omega
      case rel=>exact⟨g,g.jg.getD p 0,rfl,i,u,l.trans (x.more (by simp))⟩
     |some v=>
      have hv:=PR c.out.narrow B;simp only[ux,kc] at s;have i:Hid (jn m (ug g p v) (if uH (ug g p v) (p+1)=true then(p:Int) else(p:Int)+1)=some (C,b)):=q;clear q B;have E:=Q7 fun W (N:QW lo W f g P)=>Ox W f g P p v N (by omega);have F:Hid (∀W,QW lo W f (ug g p v) P->Calls prog 223 #[(π f),ι ((p:Int)+1)] W fun e z=>e=ε (.bool (uH (ug g p v) (p+1)))/\μ W z):=fun W N=>by
       have q:=A5 W f _ P (p+1) N;rw[show((p+1:Nat):Int)=(p:Int)+1 from by omega] at q;exact q
      generalize j.from.getD p 0=fr at *;generalize uH (ug g p v) (p+1)=bb at *;generalize ug g p v=V at *;cases bb with
      |true=>
       rw[zc rfl] at i;go_wp2_with (first|(go_at_call 227;refine s.out.mono ?_;rintro e O ⟨rfl,a,x⟩;have u:=Q7 a;clear a)|(go_at_call 228;refine(E.out _ u.out).mono ?_;rintro e w3 ⟨rfl,t,A⟩;have y:=Q7 t;clear t)|(go_at_call 223;refine(F.out _ y.out).mono ?_;rintro e w4 ⟨rfl,r⟩))
       go_roundg m
       case measure=>omega
       case rel=>exact⟨V,p,rfl,i,y.out.below r,((l.trans (x.more (by simp))).trans A).newer (ze.of (M:=[]) r) (by simp)⟩
      |false=>
       rw[za (by simp)] at i;go_wp2_with (first|(go_at_call 227;refine s.out.mono ?_;rintro e O ⟨rfl,a,x⟩;have u:=Q7 a;clear a)|(go_at_call 228;refine(E.out _ u.out).mono ?_;rintro e w3 ⟨rfl,t,A⟩;have y:=Q7 t;clear t)|(go_at_call 223;refine(F.out _ y.out).mono ?_;rintro e w4 ⟨rfl,r⟩))
       go_roundg m
       case measure=>omega
       case rel=>exact⟨V,(p:Int)+1,rfl,i,y.out.below r,((l.trans (x.more (by simp))).trans A).newer (ze.of (M:=[]) r) (by simp)⟩
   ·rw[za d] at q;simp only[zt,ya] at q;obtain⟨S,U⟩:=q;have D:Hid (C=j/\b=decide (o≥j.vars)):=⟨S.symm,U.symm⟩;clear S U;by_cases g1:0<=o
    ·by_cases g2:o<(j.vars:Int)
     ·have g3:¬o<5:=by omega
      go_wp2;go_ret;exact⟨by rw[D.out.2];first|(simp;done)|(simp;omega),by rw[D.out.1];exact c.out,l⟩
     ·go_wp2;go_ret;exact⟨by rw[D.out.2];first|(simp;done)|(simp;omega),by rw[D.out.1];exact c.out,l⟩
    ·go_wp2;go_ret;exact⟨by rw[D.out.2];first|(simp;done)|(simp;omega),by rw[D.out.1];exact c.out,l⟩
theorem QW.setDepth{w:World}{a:Nat}{P:xy}(h:QW lo w a J P)(m:Int):QW lo (w.setCell ⟨a,26,none⟩ (ι m)) a {J with ql:=m} P:=by
 obtain⟨f,e,j⟩:=h.jk;refine h.rebox (ze.set _ _ _ _) ?_ rfl rfl rfl rfl rfl h.jk;obtain⟨s,v,k,p,C,g⟩:=five h.hlen.1;obtain⟨t,F,o,B,A,i⟩:=five f;obtain⟨n,u,l,r,x,d⟩:=five e;obtain⟨q,D,y,E,z,c⟩:=five j;have b:=h.box.set 26 (ι m);simpa [uo,g,i,d,c] using b
theorem So(w:World)(k:Nat)(J:z9)(P:xy)(n:Nat)(p:z9)(b:Bool)(h:QW lo w k J P)(f:f5 n J=some (p,b)):
  Calls prog 215 #[(π k)] w fun e r=>e=ε (.bool b)/\QW lo r k p P/\ze (k::P.sv.ownBlock.toList) w r:=by
 unfold f5 at f;cases l:jn n J J.ql with
 |none=>rw[l] at f;cases f
 |some u=>
  obtain⟨q,t⟩:=u;rw[l] at f;simp only[zt,ya] at f;obtain⟨x,rfl⟩:=f;have j:=Q7 (Pa w k J P n q t h l);have s:=Q7 x.symm;cases t with
  |false=>
   go_enter func215,ntmps215;go_wp2_with (go_at_call 224;refine j.out.mono ?_;rintro e v ⟨rfl,a,d⟩;have c:=Q7 a;obtain⟨m,o,_,_,_,_,_,g,i,_⟩:=a.at;clear a)
   go_ret;exact⟨rfl,by rw[s.out];exact c.out.setDepth (-1),d.trans ((ze.set _ _ _ _).more (by simp))⟩
  |true=>
   go_enter func215,ntmps215;go_wp2_with (go_at_call 224;refine j.out.mono ?_;rintro e v ⟨rfl,a,d⟩;have c:=Q7 a;obtain⟨m,o,_,_,_,_,_,g,i,_⟩:=a.at;clear a)
   go_ret;exact⟨rfl,by rw[s.out];exact(c.out.setDepth (-1)).setDepth q.last,(d.trans ((ze.set _ _ _ _).more (by simp))).trans ((ze.set _ _ _ _).more (by simp))⟩
end
section
open Go.Proofs.Tryz
variable {lo:Nat}
theorem OR(w:World)(b:Nat)(J:z9)(P:xy)(h:QW lo w b J P):
  Calls prog 217 #[(π b)] w fun e f=>e=ε (ι J.jf)/\f=w:=by
 obtain⟨c,d,_,_,_,_,_,_,_,a⟩:=h.at;clear h;go_enter func217,ntmps217;go_wp2;go_ret;exact⟨rfl,rfl⟩
theorem PA(w:World)(s:Nat)(J:z9)(P:xy)(h:QW lo w s J P):
  Calls prog 216 #[(π s)] w fun r C=>r=ε (.agg #[ι ((Q9 J.head J.ja 0:Nat):Int),ι ((Q9 J.head J.ja 1:Nat):Int),ι ((Q9 J.head J.ja 2:Nat):Int)])/\μ w C:=by
 obtain⟨z,B,F,j,_⟩:=h.at;obtain⟨a,b,c,d,e,f⟩:=five h.jk.2.1;have G:=(h.vals 0 (by omega)).1;have t:=(h.vals 1 (by omega)).1;have H:=(h.vals 2 (by omega)).1;have M:=(h.vals 3 (by omega)).1;have K:=(h.vals 4 (by omega)).1;rw[f] at G t H M K ⊢;obtain⟨x,o,k⟩:=h.head.qx;have q:=h.head;rw[k] at j q;have m:=Q7 fun W y=>eD W _ J.head.pred J.head.qg a b c d e (q.below y);generalize Q9 J.head [a,b,c,d,e] 0=u at *;generalize Q9 J.head [a,b,c,d,e] 1=L at *;generalize Q9 J.head [a,b,c,d,e] 2=D at *;go_enter func216,ntmps216;go_wp2;go_region_with (go_at_call 161;refine(m.out _ (by exact(by go_grown))).mono ?_;rintro r A ⟨rfl,g⟩;have i:μ w A:=(zQ (by go_grown) g (zg _));have l:=(Q8.drew (Q8.new w #[ι 0,ι 0,ι 0] 165)).below g;obtain⟨n,E,I⟩:=l.boxed)
 all_goals
  go_wp2;exact zK (v:=.agg #[ι u,ι L,ι D]) (by simp[results,results216,go_sem,n]) rfl ⟨rfl,((i.setCell (p:=⟨w.heap.size,0,none⟩) (by simp) _).setCell (p:=⟨w.heap.size,1,none⟩) (by simp) _).setCell (p:=⟨w.heap.size,2,none⟩) (by simp) _⟩
theorem Qb:(prog.info? 327).map (fun i=>(i.zero,i.size,i.bytes))=some (some (.agg #[ι 0,ι 0]),2,16):=by kernel_rfl
def dA(b:Nat)(x:zu×Nat):Option (Nat×Nat):=(yQ x.1 b).map fun a=>(x.2,a)
theorem C7(r:zr)(a:Nat):xa r a=r.qc.zipIdx.filterMap (dA a):=rfl
theorem J7(a:List zu)(b k:Nat)(d:k<a.length):(a.take (k+1)).zipIdx.filterMap (dA b)=(a.take k).zipIdx.filterMap (dA b)++((yQ a[k] b).map fun c=>(k,c)).toList:=by
 rw[yL d,List.zipIdx_append,tn];congr 1;simp only[List.zipIdx_singleton,qC,vB,rQ,List.filterMap_nil,dA];rw[d8 (by omega)];cases yQ a[k] b<;>rfl
theorem M9(hs:List (Nat×Nat))(x:Nat×Nat):ko (hs++[x])=ko hs++[ι (x.1:Nat),ι (x.2:Nat)]:=by simp[ko]
theorem FV(w:World)(tv M H:Value)(r:zr)(b:Nat)(h:vy lo w tv M H r)(hp:b<=1000000):
  Calls prog 221 #[kT r tv M H,ι b] w fun e t=>∃K,e=.returned K/\t.ownsRow w.heap.size 327 2 K (xa r b).length (ko (xa r b))/\μ w t:=by
 obtain⟨S,hi,B,A,v⟩:=info_parts Qb;obtain⟨ad,J,rfl⟩:=h.qc.qx;have aa:=h.qc.len;have U:=h.qc;have HE:Hid (xa r b=r.qc.zipIdx.filterMap (dA b)):=rfl;unfold kT;clear h;generalize r.qc=c at *;go_enter func221,ntmps221;go_wp2;go_loopw [5,13] (fun V C wr=>∃k:Nat,k<=c.length/\C=ι k/\wr.ownsRow w.heap.size 327 2 V ((c.take k).zipIdx.filterMap (dA b)).length (ko ((c.take k).zipIdx.filterMap (dA b)))/\μ w wr) (fun _ i _=>c.length-(intOf i).toNat)
 case atStart=>exact⟨0,zv _,rfl,yD _ _ _ _,(by go_grown)⟩
 case round=>
  obtain⟨k,hk,rfl,a,d⟩:=hrel;have Q:=d.size;have L:((c.take k).zipIdx.filterMap (dA b)).length<=k:=by
   have:=pY (dA b) (c.take k).zipIdx;simp at this;omega
  by_cases q:k<c.length
  ·obtain⟨g,G,p,E,N,I,R,O⟩:=U.cell k q;subst E;have ae:=zl d N I;have ab:=zl d N R;have T:g<wr.heap.size:=by omega
   have u:=Q7 (J7 c b k q);have m:Hid (∀W,μ w W->Calls prog 187 #[.agg #[ι (c[k].pred:Nat),.slice G c[k].qg.length p],ι b] W fun e t=>e=ε (.tuple #[ι (((yQ c[k] b).getD 0:Nat):Int),.bool (yQ c[k] b).isSome])/\μ W t):=fun W Y=>D8 W _ c[k].pred b c[k].qg (O.below Y) hp;clear I R O;generalize c[k]=l at *;generalize (c.take k).zipIdx.filterMap (dA b)=y at *;generalize yQ l b=ol at *;cases ol with
   |none=>
    simp only[Option.map_none,Option.toList_none,qM] at u;simp only[gC,g6] at m;go_wp2_with (go_at_call 187;refine(m.out _ (by exact(by go_grown))).mono ?_;rintro e s ⟨rfl,n⟩;have f:μ wr s:=(zQ (by go_grown) n (zg _)))
    go_roundw
    ·exact⟨k+1,by omega,by go_num,by rw[u.out];exact zB a f,QB d f⟩
    ·simp[intOf];omega
   |some Z=>
    simp only[jA,Option.toList_some] at u;simp only[ux,kc] at m;obtain⟨D,o,rfl⟩:=zp a;go_wp2_with (first|(go_at_call 187;refine(m.out _ (by exact(by go_grown))).mono ?_;rintro e s ⟨rfl,n⟩;have f:μ wr s:=(zQ (by go_grown) n (zg _));have j:=zB a f;have ac:=f.size)|(at_builtin;refine kH s _ [ι k,ι Z] _ rfl (.tmp 25) (.tmp 29) 307 rfl w.heap.size 327 S _ 2 16 underlying307 hi B A v rfl (by decide) (.slice D y.length o) y.length (ko y) rfl j (zo _ _) _ _ rfl (by simp) rfl (by simp[Value.oneCell']) (by omega) (by omega) (by omega) ?_;intro v' w3 z F P))
    go_roundw
    ·exact⟨k+1,by omega,by go_num,by rw[u.out,M9,yq];exact z,(QB d f).trans (F.below (fun x X=>yV j (yr X)) (by omega))⟩
    ·simp[intOf];omega
  ·rw[xg (by omega)] at a;go_wp2;go_ret;exact⟨_,rfl,by rw[HE.out];exact a,d⟩
end
section
variable {lo:Nat}{w w':World}{base tb b0:Nat}{v:Value}{xs:List Value}{c:Array Value}{T:zi}{fp:List Nat}
abbrev zn:=Nat×Nat×Nat
def Rz(t:TypeId):Prop:=t≠229/\t≠273/\t≠3
instance (t:TypeId):Decidable (Rz t):=by unfold Rz;infer_instance
def Kr(w:World)(b:Nat):Prop:=∃c t,Q8 w b c t/\¬Rz t
theorem sj{t:TypeId}(h:t=229∨t=273∨t=3):¬Rz t:=by
 rintro⟨a,b,c⟩;rcases h with h|h|h
 ·exact a h
 ·exact b h
 ·exact c h
theorem uV{e:TypeId}{a n:Nat}(h:w.ownsRow base e a v n xs){b:Nat}(f:v.ownBlock=some b):∃c,Q8 w b c e:=by
 obtain⟨_,⟨d,_⟩|⟨g,j,i,d,_,k,_⟩⟩:=h
 ·subst d;cases f
 ·subst d;simp only[Value.ownBlock,zt] at f;subst f;exact⟨_,k⟩
theorem Q8.type{b:Nat}{e:Array Value}{t d:TypeId}(h:Q8 w b c t)(a:Q8 w b e d):t=d:=by
 unfold Q8 at h a;rw[h] at a;simp at a;exact a.2
theorem zY.typed(h:zY lo w tb T fp):∀b∈fp,Kr w b:=by
 obtain⟨j,k,d,rfl⟩:=h;intro b a;simp only[R8,zx,zI] at a;rcases a with a|a|a
 ·subst a;exact⟨_,_,d.box,sj (zf rfl)⟩
 ·obtain⟨c,f⟩:=uV d.qi (yr a);exact⟨_,_,f,sj (zb (zf rfl))⟩
 ·obtain⟨i,g,e|e⟩:=oj a
  ·obtain⟨c,f⟩:=uV (d.leap i (by rw[←d.len];exact g) g) (b:=b) (by rw[e];rfl);exact⟨_,_,f,sj (zb (zb rfl))⟩
  ·obtain⟨c,f⟩:=uV (d.down i (by rw[←d.len];exact g) g) (b:=b) (by rw[e];rfl);exact⟨_,_,f,sj (zb (zb rfl))⟩
def yR(lo:Nat)(w:World)(own:Nat->zn)(ρ:zn)(tb:Nat)(T:zi):Prop:=∃fp,zY lo w tb T fp/\∀b∈fp,own b=ρ
structure QE (lo:Nat) (ok:TypeId->zn->Prop) (w:World) (own:Nat->zn) (w':World) (own':Nat->zn):Prop where
 old:∀b,b<w.heap.size->own' b=own b
 save:∃M,ze M w w'/\∀b∈M,lo<=b/\b<w.heap.size/\∃c t,Q8 w b c t/\ok t (own b)
def onT(rs:zn->Prop):TypeId->zn->Prop:=fun t ρ=>¬Rz t/\rs ρ
def gA(l:List TypeId):TypeId->zn->Prop:=fun t _=>t∈l
def orK(a b:TypeId->zn->Prop):TypeId->zn->Prop:=fun t ρ=>a t ρ∨b t ρ
theorem QE.of{ok:TypeId->zn->Prop}{w w':World}(own:Nat->zn)(a:μ w w'):QE lo ok w own w' own:=⟨fun _ _=>rfl,[],ze.of a,by simp⟩
theorem QE.refl{ok:TypeId->zn->Prop}(w:World)(own:Nat->zn):QE lo ok w own w own:=QE.of own (zo _ _)
theorem QE.more{ok ok':TypeId->zn->Prop}{own a:Nat->zn}(h:QE lo ok w own w' a)(hs:∀t ρ,ok t ρ->ok' t ρ):QE lo ok' w own w' a:=by
 obtain⟨e,M,j,k⟩:=h;refine⟨e,M,j,fun b i=>?_⟩;obtain⟨d,f,c,t,l,g⟩:=k b i;exact⟨d,f,c,t,l,hs _ _ g⟩
theorem QE.size{ok:TypeId->zn->Prop}{w w':World}{own a:Nat->zn}(h:QE lo ok w own w' a):w.heap.size<=w'.heap.size:=by
 obtain⟨_,M,b,_⟩:=h;exact b.size
theorem QE.trans{ok:TypeId->zn->Prop}{a b c:World}{m l n:Nat->zn}(h:QE lo ok a m b l)(k:QE lo ok b l c n):QE lo ok a m c n:=by
 obtain⟨r,M,f,q⟩:=h;obtain⟨y,N,g,z⟩:=k;have s:=f.size;refine⟨fun x d=>(y x (by omega)).trans (r x d),M++N.filter (·<a.heap.size),⟨g.os.trans f.os,g.tape.trans f.tape,g.output.trans f.output,yc s g.size,fun x d j=>?_⟩,fun x d=>?_⟩
 ·simp only[zI,ub,not_or,not_and,decide_eq_true_eq] at j;exact(g.block x (by omega) fun i=>j.2 i d).trans (f.block x d j.1)
 ·simp only[zI,ub,decide_eq_true_eq] at d;rcases d with d|⟨d,e⟩
  ·exact q x d
  ·obtain⟨u,A,c,t,o,p⟩:=z x d;rw[r x e] at p;by_cases i:x∈M
   ·exact q x i
   ·exact⟨u,e,c,t,by unfold Q8 at o ⊢;rw[←f.block x e i];exact o,p⟩
theorem QE.ofSave{ok:TypeId->zn->Prop}(own:Nat->zn){M:List Nat}(hs:ze M w w')(a:∀b∈M,lo<=b/\b<w.heap.size/\∃c t,Q8 w b c t/\ok t (own b)):QE lo ok w own w' own:=⟨fun _ _=>rfl,M,hs,a⟩
theorem QE.set{ok:TypeId->zn->Prop}{w:World}(own:Nat->zn){b:Nat}{c:Array Value}{t:TypeId}(a:Q8 w b c t)(f:lo<=b)(e:ok t (own b))(o:Nat)(u:Value):QE lo ok w own (w.setCell ⟨b,o,none⟩ u) own:=
 QE.ofSave own (ze.set _ _ _ _) (fun x d=>by simp at d;subst d;exact⟨f,a.lt,_,_,a,e⟩)
theorem Q8.mod{ok:TypeId->zn->Prop}{own a:Nat->zn}{b:Nat}{t:TypeId}(h:Q8 w b c t)(p:QE lo ok w own w' a)(d:¬ok t (own b)):Q8 w' b c t:=by
 obtain⟨_,M,g,i⟩:=p;refine h.save g fun e=>?_;obtain⟨_,_,k,j,q,f⟩:=i b e;rw[h.type q] at d;exact d f
theorem rm{ok:TypeId->zn->Prop}{own d:Nat->zn}{e:TypeId}{a n:Nat}(h:w.ownsRow base e a v n xs)(p:QE lo ok w own w' d)(i:∀b,v.ownBlock=some b->¬ok e (own b)):w'.ownsRow base e a v n xs:=by
 obtain⟨_,M,l,m⟩:=p;refine yT h l fun b f j=>?_;obtain⟨c,g⟩:=uV h f;obtain⟨_,_,r,o,q,k⟩:=m b j;have:=i b f;rw[g.type q] at this;exact this k
theorem vK{ok:TypeId->zn->Prop}{own b:Nat->zn}{e:TypeId}{a n:Nat}(h:w.ownsRow base e a v n xs)(p:QE lo ok w own w' b)(d:∀ρ,¬ok e ρ):w'.ownsRow base e a v n xs:=rm h p fun _ _=>d _
theorem zY.mod{ok:TypeId->zn->Prop}{own a:Nat->zn}(h:zY b0 w tb T fp)(p:QE lo ok w own w' a)(l:∀b∈fp,∀t,¬Rz t->¬ok t (own b)):zY b0 w' tb T fp:=by
 obtain⟨_,M,g,f⟩:=p;refine h.save g fun b e i=>?_;obtain⟨_,_,c,t,q,k⟩:=f b i;obtain⟨n,m,j,d⟩:=h.typed b e;rw[j.type q] at d;exact l b e t d k
theorem yR.mod{ok:TypeId->zn->Prop}{w w':World}{own a:Nat->zn}{ρ:zn}{tb:Nat}{T:zi}(h:yR lo w own ρ tb T)(p:QE lo ok w own w' a)(i:∀t,¬Rz t->¬ok t ρ):yR lo w' a ρ tb T:=by
 obtain⟨fp,f,e⟩:=h;exact⟨fp,f.mod p fun b d t g=>by rw[e b d];exact i t g,fun b d=>(p.old b (f.lt b d).2).trans (e b d)⟩
theorem qV{rs:zn->Prop}{t:TypeId}(h:Rz t):∀ρ,¬onT rs t ρ:=fun _ q=>q.1 h
theorem yR.onT{rs:zn->Prop}{w w':World}{own a:Nat->zn}{ρ:zn}{tb:Nat}{T:zi}(h:yR lo w own ρ tb T)(p:QE lo (onT rs) w own w' a)(b:¬rs ρ):yR lo w' a ρ tb T:=h.mod p fun _ _ q=>b q.2
theorem yh.mod{ok:TypeId->zn->Prop}{own a:Nat->zn}{ts:List zZ}(h:yh b0 w v ts)(p:QE lo ok w own w' a)(b:∀ρ,¬ok 284 ρ):yh b0 w' v ts:=⟨vK h.own p b,h.len,h.num⟩
theorem xX.mod{b0:Nat}{ok:TypeId->zn->Prop}{w w':World}{own d:Nat->zn}{v:Value}{g:List zu}(h:xX b0 w v g)(p:QE lo ok w own w' d)(i:∀ρ,¬ok 284 ρ)(f:∀ρ,¬ok 204 ρ):xX b0 w' v g:=by
 obtain⟨j,n,l,m,e⟩:=h;exact⟨j,vK n p f,l,m,fun k a b=>⟨(e k a b).1,(e k a b).2.1.mod p i,(e k a b).2.2⟩⟩
theorem vy.mod{b0:Nat}{ok:TypeId->zn->Prop}{w w':World}{own a:Nat->zn}{tv f e:Value}{r:zr}(h:vy b0 w tv f e r)(p:QE lo ok w own w' a)(d:∀ρ,¬ok 284 ρ)(b:∀ρ,¬ok 204 ρ):vy b0 w' tv f e r:=⟨h.head.mod p d,h.qc.mod p d b,h.qp.mod p d b,h.small⟩
theorem QO.mod{ok:TypeId->zn->Prop}{own b:Nat->zn}{a:List zm}(h:QO b0 w v a)(p:QE lo ok w own w' b)(d:∀ρ,¬ok 165 ρ):QO b0 w' v a:=⟨vK h.1 p d,h.2⟩
def ext(own:Nat->zn)(n:Nat)(ρ:zn):Nat->zn:=fun b=>if b<n then own b else ρ
theorem dH(own:Nat->zn)(n:Nat)(ρ:zn)(b:Nat)(h:b<n):ext own n ρ b=own b:=by simp[ext,h]
theorem QX.mod{own:Nat->zn}{ρ:zn}{e:zi}{d:List Nat}(h:zY lo w tb T fp)(f:∀b∈fp,own b=ρ)(k:QX lo w w' tb e fp d):
  yR lo w' (ext own w.heap.size ρ) ρ tb e/\QE lo (onT (·=ρ)) w own w' (ext own w.heap.size ρ):=by
 refine⟨⟨d,k.trie,fun b a=>?_⟩,fun b a=>by simp[ext,a],fp,k.save,fun b a=>⟨(h.lt b a).1,(h.lt b a).2,?_⟩⟩
 ·unfold ext;split
  ·rcases k.qo b a with q|q
   ·exact f b q
   ·omega
  ·rfl
 ·obtain⟨c,t,g,i⟩:=h.typed b a;exact⟨c,t,g,i,f b a⟩
theorem QE.extNew{ok:TypeId->zn->Prop}(own:Nat->zn)(ρ:zn)(a:μ w w'):QE lo ok w own w' (ext own w.heap.size ρ):=⟨fun b h=>by simp[ext,h],[],ze.of a,by simp⟩
theorem zY.low{a b:Nat}{w:World}{tb:Nat}{T:zi}{fp:List Nat}(h:zY b w tb T fp)(e:a<=b):zY a w tb T fp:=by
 obtain⟨f,g,d,rfl⟩:=h;exact⟨f,g,⟨yc e d.low,d.box,yt d.qi e,d.len,fun i a b=>yt (d.leap i a b) e,fun i a b=>yt (d.down i a b) e,d.apart,d.wide,d.many,d.deep,d.few⟩,rfl⟩
theorem zY.new(own:Nat->zn)(ρ:zn)(h:zY w.heap.size w' tb T fp)(d:lo<=w.heap.size):yR lo w' (ext own w.heap.size ρ) ρ tb T:=
 ⟨fp,h.low d,fun b a=>by have:=(h.lt b a).1;simp[ext,Nat.not_lt.2 this]⟩
theorem yR.below{own:Nat->zn}{ρ:zn}(h:yR lo w own ρ tb T)(a:μ w w'):yR lo w' own ρ tb T:=h.mod (QE.of (ok:=fun _ _=>False) own a) (fun _ _=>id)
theorem yR.set{w:World}{own:Nat->zn}{ρ:zn}{tb:Nat}{T:zi}(h:yR lo w own ρ tb T){b:Nat}{c:Array Value}{t:TypeId}(g:Q8 w b c t)(f:Rz t)(o:Nat)(u:Value):yR lo (w.setCell ⟨b,o,none⟩ u) own ρ tb T:=by
 obtain⟨fp,e,j⟩:=h;refine⟨fp,e.save (ze.set _ _ _ _) fun x i a=>?_,j⟩;simp at a;subst a;obtain⟨l,k,q,d⟩:=e.typed x i;rw[q.type g] at d;exact d f
end
section
variable {lo:Nat}{w w':World}{v:Value}{xs:List Value}{b:Nat}{c:Array Value}{M:List Nat}
def QU(w:World)(T:TypeId)(M:List Nat):Prop:=∀b∈M,∃c,Q8 w b c T
theorem QU.own{d:Nat}{e:TypeId}{a n:Nat}(h:w.ownsRow d e a v n xs):QU w e v.ownBlock.toList:=fun _ f=>uV h (yr f)
theorem QU.box{T:TypeId}(h:Q8 w b c T):QU w T [b]:=fun x a=>by simp at a;subst a;exact⟨c,h⟩
theorem yF{d:Nat}{e T:TypeId}{a n:Nat}(h:w.ownsRow d e a v n xs)(hs:ze M w w')(k:QU w T M)(l:e≠T):w'.ownsRow d e a v n xs:=
 yT h hs fun b j i=>by
  obtain⟨c,g⟩:=k b i;obtain⟨m,f⟩:=uV h j;exact l (f.type g)
theorem Q8.saveT{e T:TypeId}(h:Q8 w b c e)(hs:ze M w w')(f:QU w T M)(g:e≠T):Q8 w' b c e:=
 h.save hs fun d=>by
  obtain⟨i,a⟩:=f b d;exact g (h.type a)
theorem yh.saveT{a:Nat}{ts:List zZ}{T:TypeId}(h:yh a w v ts)(hs:ze M w w')(e:QU w T M)(d:284≠T):yh a w' v ts:=⟨yF h.own hs e d,h.len,h.num⟩
theorem xX.saveT{f:Nat}{w w':World}{v:Value}{e:List zu}{T:TypeId}{M:List Nat}(h:xX f w v e)(hs:ze M w w')(l:QU w T M)(n:284≠T)(j:∀b,v.ownBlock=some b->b∉M):xX f w' v e:=by
 obtain⟨i,g,m,o,d⟩:=h;exact⟨i,yT g hs j,m,o,fun k a b=>⟨(d k a b).1,(d k a b).2.1.saveT hs l n,(d k a b).2.2⟩⟩
theorem xX.saveTT{g:Nat}{f:List zu}{T:TypeId}(h:xX g w v f)(hs:ze M w w')(i:QU w T M)(n:284≠T)(e:204≠T):xX g w' v f:=by
 obtain⟨j,o,m,l,d⟩:=h;exact⟨j,yF o hs i e,m,l,fun k a b=>⟨(d k a b).1,(d k a b).2.1.saveT hs i n,(d k a b).2.2⟩⟩
theorem vy.saveT{g:Nat}{w w':World}{tv i f:Value}{r:zr}{T:TypeId}{M:List Nat}(h:vy g w tv i f r)(hs:ze M w w')(d:QU w T M)(e:284≠T)(a:204≠T):vy g w' tv i f r:=⟨h.head.saveT hs d e,h.qc.saveTT hs d e a,h.qp.saveTT hs d e a,h.small⟩
theorem yh.low{a:Nat}{ts:List zZ}(h:yh b w v ts)(d:a<=b):yh a w v ts:=⟨yt h.own d,h.len,h.num⟩
theorem xX.low{a b:Nat}{w:World}{v:Value}{e:List zu}(h:xX b w v e)(f:a<=b):xX a w v e:=by
 obtain⟨g,l,i,j,d⟩:=h;exact⟨g,yt l f,i,j,fun k a b=>⟨(d k a b).1,(d k a b).2.1.low f,(d k a b).2.2⟩⟩
theorem vy.low{a b:Nat}{w:World}{tv f e:Value}{r:zr}(h:vy b w tv f e r)(d:a<=b):vy a w tv f e r:=⟨h.head.low d,h.qc.low d,h.qp.low d,h.small⟩
theorem Q8.up{T:TypeId}(h:Q8 w b c T)(o:Obj):Q8 (w.alloc o) b c T:=h.below ((zo _ _).alloc (zg _) o)
theorem Q8.at'{b':Nat}{T:TypeId}(h:Q8 w b c T)(e:b=b'):Q8 w b' c T:=e ▸ h
theorem Q8.carry{W a:World}{T:TypeId}{G:Prop}(h:Q8 W b c T)(d:μ W a)(k:Q8 a b c T->G):G:=k (h.below d)
end
section
open Go.Proofs.Tryz
variable {lo:Nat}
theorem yR.saveT{w w':World}{own:Nat->zn}{ρ:zn}{tb:Nat}{T:zi}{t:TypeId}{M:List Nat}(h:yR lo w own ρ tb T)(hs:ze M w w')(i:QU w t M)(e:Rz t):yR lo w' own ρ tb T:=by
 obtain⟨g,b,k⟩:=h;refine⟨g,b.save hs fun x j f=>?_,k⟩;obtain⟨c,d⟩:=i x f;obtain⟨m,l,q,a⟩:=b.typed x j;rw[q.type d] at a;exact a e
theorem ty(w:World)(own:Nat->zn)(ρ:zn)(tb:Nat)(T:zi)(x y z m:Nat)(h:yR lo w own ρ tb T)(a:okT T=true):
  Calls prog 163 #[(π tb),.agg #[ι x,ι y,ι z],ι m] w fun e b=>e=ε (.bool (addP T [x,y,z] m).2)/\yR lo b (ext own w.heap.size ρ) ρ tb (addP T [x,y,z] m).1/\QE lo (onT (·=ρ)) w own b (ext own w.heap.size ρ):=by
 obtain⟨d,c,i⟩:=h;simp only[okT,uw,decide_eq_true_eq] at a;refine(GB w tb T d x y z m c a.1 a.2).mono ?_;rintro e b ⟨rfl,g,f⟩;exact⟨rfl,f.mod c i⟩
theorem Cr(w:World)(own:Nat->zn)(ρ:zn)(tb:Nat)(T:zi)(n:Nat)(rs:List zm)(h:yR lo w own ρ tb T)(a:rowsG n T=some rs):
  Calls prog 78 #[(π tb)] w fun e d=>∃v,e=.returned v/\QO w.heap.size d v rs/\μ w d:=by
 obtain⟨f,g,_⟩:=h;unfold rowsG at a;cases c:nU n T with
 |none=>rw[c] at a;cases a
 |some b=>
  rw[c] at a;simp only at a;split at a
  ·simp only[zt] at a;subst a;exact G3 w tb T f g n b c (by assumption)
  ·cases a
theorem QO.cell{B:Nat}{w:World}{v:Value}{rs:List zm}(h:QO B w v rs)(k:Nat)(d:k<rs.length):∃g f x y z,v=.slice (some ⟨g,0,none⟩) rs.length f/\g<w.heap.size/\rs[k]=[x,y,z]/\w.cell? ⟨g,k*3,none⟩=some (ι (x:Nat))/\w.cell? ⟨g,k*3+1,none⟩=some (ι (y:Nat))/\w.cell? ⟨g,k*3+2,none⟩=some (ι (z:Nat)):=by
 obtain⟨F,o⟩:=h;obtain⟨g,f,s,_,C,j⟩:=yx F (by omega);obtain⟨x,y,z,e⟩:∃x y z,rs[k]=[x,y,z]:=by
  have:=o rs[k] (zs d);match n:rs[k],this with
  |[x,y,z],_=>exact⟨x,y,z,rfl⟩
 have m:∀(rs:List zm) (k:Nat) (d:k<rs.length),(∀r∈rs,r.length=3)->rs[k]=[x,y,z]->(jC rs)[k*3]?=some (ι x)/\(jC rs)[k*3+1]?=some (ι y)/\(jC rs)[k*3+2]?=some (ι z):=by
  intro rs;induction rs with
  |nil=>intro k d;simp at d
  |cons r l E=>
   intro k d p i;match k,d,i with
   |0,_,i=>simp only[gH] at i;subst i;simp[jC,Rm]
   |k+1,d,i=>
    have D:=p r (by simp);match G:r,D with
    |[a,b,c],_=>
     have:=E k (by simpa using d) (fun q n=>p q (by simp[n])) (by simpa using i);simp only[jC,us] at this ⊢;rw[show(k+1)*3=k*3+1+1+1 from by omega,show k*3+1+1+1+1=k*3+1+1+1+1 from rfl,show k*3+1+1+1+2=k*3+2+1+1+1 from by omega];simpa using this
 obtain⟨u,t,A⟩:=m rs k d o e;exact⟨g,f,x,y,z,s,C,e,j _ _ u,j _ _ t,j _ _ A⟩
structure j9 where
 tv:Value
 bb:Nat
 fb:Nat
 ab:Nat
def pt(b:Nat):Value:=(π b)
def gI(wd:Nat)(V:y6)(P:j9):List Value:=[ι V.lit.pred,P.tv,ι wd,pt P.bb,pt P.fb,pt P.ab]
structure vF (lo:Nat) (w:World) (own:Nat->zn) (k i:Nat) (V:y6) (P:j9):Prop where
 qg:yh lo w P.tv V.lit.qg
 before:yR lo w own (k+1,i,0) P.bb V.before
 qo:yR lo w own (k+1,i,1) P.fb V.qo
 all:yR lo w own (k+1,i,2) P.ab V.all
theorem vF.mod{ok:TypeId->zn->Prop}{w w':World}{own a:Nat->zn}{k i:Nat}{V:y6}{P:j9}(h:vF lo w own k i V P)(p:QE lo ok w own w' a)(b:∀j t,¬Rz t->¬ok t (k+1,i,j))(c:∀ρ,¬ok 284 ρ):vF lo w' a k i V P:=
 ⟨h.qg.mod p c,h.before.mod p (b 0),h.qo.mod p (b 1),h.all.mod p (b 2)⟩
theorem vF.below{w w':World}{own:Nat->zn}{k i:Nat}{V:y6}{P:j9}(h:vF lo w own k i V P)(a:μ w w'):vF lo w' own k i V P:=h.mod (QE.of (ok:=fun _ _=>False) own a) (fun _ _ _=>id) (fun _=>id)
theorem vF.saveT{w w':World}{own:Nat->zn}{k i:Nat}{V:y6}{P:j9}{t:TypeId}{M:List Nat}(h:vF lo w own k i V P)(hs:ze M w w')(a:QU w t M)(b:Rz t)(c:284≠t):vF lo w' own k i V P:=⟨h.qg.saveT hs a c,h.before.saveT hs a b,h.qo.saveT hs a b,h.all.saveT hs a b⟩
def JF(lo:Nat)(w:World)(own:Nat->zn)(k i wd:Nat)(tv:Value)(l:zu)(e:Ending)(w':World):Prop:=∃P a,P.tv=tv/\e=ε (.agg (gI wd (kG wd l) P).toArray)/\vF lo w' a k i (kG wd l) P/\(∀b,b<w.heap.size->a b=own b)/\μ w w'
theorem Ce(l:zu):yO l<=5:=by
 unfold yO;have:=rI (p:=zH l) (l:=List.range 5);simpa using this
theorem FE(w:World)(own:Nat->zn)(k i:Nat)(l:zu)(tv:Value)(wd:Nat)(h:yh lo w tv l.qg)(hl:lo<=w.heap.size)(aD:wd<=1000):
  Calls prog 204 #[.agg #[ι l.pred,tv],ι wd] w fun e w'=>JF lo w own k i wd tv l e w':=by
 obtain⟨y,c,rfl⟩:=h.qx;have HD:Hid (∀W,μ w W->Calls prog 212 #[.agg #[ι l.pred,.slice y l.qg.length c]] W fun e w'=>e=ε (ι (yO l:Nat))/\μ W w'):=fun W hW=>Ex W _ l.pred l.qg (h.below hW);have HT:=Q7 h;have ai:Hid (kG wd l=⟨l,yU wd (yO l),yU wd (yO l),yU wd (yO l)⟩):=rfl;have aB:=Ce l;have HN:=Q7 fun W=>eZ W wd (yO l) aD (by omega);have HL:=Q7 hl;clear h hl aB;have L:=Q8.new ((w.alloc (.cells #[ι l.pred,.slice y l.qg.length c] 204)).alloc (.cells #[ι 0,ν,ι 0,.pointer none,.pointer none,.pointer none] 301)) #[ι l.pred,.slice y l.qg.length c,ι wd,.pointer none,.pointer none,.pointer none] 301;have a:=(Q8.new (w.alloc (.cells #[ι l.pred,.slice y l.qg.length c] 204)) #[ι 0,ν,ι 0,.pointer none,.pointer none,.pointer none] 301).below ((zo _ _).alloc (zg _) (.cells #[ι l.pred,.slice y l.qg.length c,ι wd,.pointer none,.pointer none,.pointer none] 301));simp only[World.size_alloc] at L a;generalize yO l=dl at *;go_enter func204,ntmps204;go_upto_region 3 with (first|(go_at_call 212;refine(HD.out _ (by exact(by go_grown))).mono ?_;rintro e w1 ⟨rfl,F⟩;have D:μ w w1:=(zQ (by go_grown) F (zg _));have K:=L.below F;have ap:=a.below F))
 clear L a F;have a8:lo<=w1.heap.size:=by have:=HL.out;have:=D.size;omega
 obtain⟨o,s,u⟩:=K.boxed;have aH:=D.size;have ao:Hid (yh lo w1 _ l.qg):=HT.out.below D;go_upto_region 4 with (first|(go_at_call 119;refine(HN.out _).mono ?_;rintro e R ⟨f,aK,rfl,ac,t⟩;have x:=K.below t;have ad:=ap.below t;obtain⟨ah,an,ax⟩:=x.boxed))
 have I:=(zY.new own (k+1,i,0) ac a8).set x (by decide) 3 (pt f);have M:ze [w.heap.size+1+1] R (R.setCell ⟨w.heap.size+1+1,3,none⟩ (pt f)):=ze.set _ _ _ _;have T:Hid (yh lo _ _ l.qg):=(ao.out.below t).saveT M (QU.box x) (by decide);have G:Q8 (R.setCell ⟨w.heap.size+1+1,3,none⟩ (pt f)) (w.heap.size+1+1) #[ι l.pred,.slice y l.qg.length c,ι wd,(π f),.pointer none,.pointer none] 301:=by have q:=x.set 3 (pt f);simpa [pt] using q
 have J:=ad.set_ne (show w.heap.size+1≠w.heap.size+1+1 by omega) 3 (pt f);have U:μ w (R.setCell ⟨w.heap.size+1+1,3,none⟩ (pt f)):=(QB D t).setCell (by simp;omega) _;have a2:(R.setCell ⟨w.heap.size+1+1,3,none⟩ (pt f)).heap.size=R.heap.size:=by simp[World.setCell]
 have a4:=t.size;generalize A:ext own w1.heap.size (k+1,i,0)=n at *;have N:∀b,b<w.heap.size->n b=own b:=fun b hb=>by rw[←A];exact dH _ _ _ _ (by omega)
 have am:pt f=(π f):=rfl;rw[am] at I M T G J U a2;generalize R.setCell ⟨w.heap.size+1+1,3,none⟩ ((π f))=w3 at *;clear A ac t x ad ah an ax o s u K ap ao M am;have aA:lo<=w3.heap.size:=by omega
 obtain⟨o,s,u⟩:=G.boxed;go_upto_region 5 with (first|(go_at_call 119;refine(HN.out _).mono ?_;rintro e O ⟨m,aI,rfl,aq,a⟩;have p:=G.below a;have X:=J.below a;obtain⟨ar,ab,ay⟩:=p.boxed))
 have aj:=(I.mod (QE.extNew (ok:=fun _ _=>False) n (k+1,i,1) a) (fun _ _=>id)).set p (by decide) 4 ((π m));have ak:=(zY.new n (k+1,i,1) aq aA).set p (by decide) 4 ((π m));have Z:ze [w.heap.size+1+1] O (O.setCell ⟨w.heap.size+1+1,4,none⟩ ((π m))):=ze.set _ _ _ _;have aw:Hid (yh lo _ _ l.qg):=(T.out.below a).saveT Z (QU.box p) (by decide);have P:Q8 (O.setCell ⟨w.heap.size+1+1,4,none⟩ ((π m))) (w.heap.size+1+1) #[ι l.pred,.slice y l.qg.length c,ι wd,(π f),(π m),.pointer none] 301:=by have q:=p.set 4 ((π m));simpa using q
 have Y:=X.set_ne (show w.heap.size+1≠w.heap.size+1+1 by omega) 4 ((π m));have aa:μ w (O.setCell ⟨w.heap.size+1+1,4,none⟩ ((π m))):=(QB U a).setCell (by simp;omega) _;have aG:(O.setCell ⟨w.heap.size+1+1,4,none⟩ ((π m))).heap.size=O.heap.size:=by simp[World.setCell]
 have a3:=a.size;generalize B:ext n w3.heap.size (k+1,i,1)=d at *;have S:∀b,b<w.heap.size->d b=own b:=fun b hb=>by rw[←B,dH _ _ _ _ (by omega)];exact N b hb
 generalize O.setCell ⟨w.heap.size+1+1,4,none⟩ ((π m))=w5 at *;clear B aq a p X ar ab ay o s u G J I T Z U;have a7:lo<=w5.heap.size:=by omega
 obtain⟨o,s,u⟩:=P.boxed;go_upto_region 6 with (first|(go_at_call 119;refine(HN.out _).mono ?_;rintro e w6 ⟨r,aF,rfl,au,j⟩;have g:=P.below j;have af:=Y.below j;obtain⟨av,V,ag⟩:=g.boxed))
 have a0:=(aj.mod (QE.extNew (ok:=fun _ _=>False) d (k+1,i,2) j) (fun _ _=>id)).set g (by decide) 5 ((π r));have az:=(ak.mod (QE.extNew (ok:=fun _ _=>False) d (k+1,i,2) j) (fun _ _=>id)).set g (by decide) 5 ((π r));have a6:=(zY.new d (k+1,i,2) au a7).set g (by decide) 5 ((π r));have ae:ze [w.heap.size+1+1] w6 (w6.setCell ⟨w.heap.size+1+1,5,none⟩ ((π r))):=ze.set _ _ _ _;have a9:Hid (yh lo _ _ l.qg):=(aw.out.below j).saveT ae (QU.box g) (by decide);have a5:Q8 (w6.setCell ⟨w.heap.size+1+1,5,none⟩ ((π r))) (w.heap.size+1+1) #[ι l.pred,.slice y l.qg.length c,ι wd,(π f),(π m),(π r)] 301:=by have q:=g.set 5 ((π r));simpa using q
 have al:=af.set_ne (show w.heap.size+1≠w.heap.size+1+1 by omega) 5 ((π r));have aC:μ w (w6.setCell ⟨w.heap.size+1+1,5,none⟩ ((π r))):=(QB aa j).setCell (by simp;omega) _;generalize z:ext d w5.heap.size (k+1,i,2)=H at *;have Q:∀b,b<w.heap.size->H b=own b:=fun b hb=>by rw[←z,dH _ _ _ _ (by omega)];exact S b hb
 generalize w6.setCell ⟨w.heap.size+1+1,5,none⟩ ((π r))=w7 at *;clear z au j g af av V ag o s u P Y aj ak aw ae aa;obtain⟨o,s,u⟩:=a5.boxed;obtain⟨a1,aJ,aE⟩:=al.boxed;go_wp2
 (try simp only[Exit.inBlock,Exit.then])
 have E:ze [w.heap.size+1] w7 ((((((w7.setCell ⟨w.heap.size+1,0,none⟩ (ι l.pred)).setCell ⟨w.heap.size+1,1,none⟩ (.slice y l.qg.length c)).setCell ⟨w.heap.size+1,2,none⟩ (ι wd)).setCell ⟨w.heap.size+1,3,none⟩ ((π f))).setCell ⟨w.heap.size+1,4,none⟩ ((π m))).setCell ⟨w.heap.size+1,5,none⟩ ((π r))):=(((((ze.set _ _ _ _).trans (ze.set _ _ _ _)).trans (ze.set _ _ _ _)).trans (ze.set _ _ _ _)).trans (ze.set _ _ _ _)).trans (ze.set _ _ _ _);have C:=QU.box al;refine zK (v:=.agg #[ι l.pred,.slice y l.qg.length c,ι wd,(π f),(π m),(π r)]) (by simp[results,results204,go_sem,a1]) rfl ⟨⟨.slice y l.qg.length c,f,m,r⟩,H,rfl,by rw[ai.out];rfl,?_,Q,?_⟩
 ·rw[ai.out];exact⟨a9.out.saveT E C (by decide),a0.saveT E C (by decide),az.saveT E C (by decide),a6.saveT E C (by decide)⟩
 ·exact(((((aC.setCell (by simp) _).setCell (by simp) _).setCell (by simp) _).setCell (by simp) _).setCell (by simp) _).setCell (by simp) _
end
end Go.Proofs.YteampbddflhngaaGreat
