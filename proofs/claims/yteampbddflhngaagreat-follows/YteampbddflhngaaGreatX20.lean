import Derived.Test.YteampbddflhngaaGreatX13
namespace Go.Proofs.YteampbddflhngaaGreat
set_option linter.all false
set_option maxRecDepth 100000
set_option maxHeartbeats 4000000
open Go.RowKit
section
open Go.Proofs.Tryz
variable {lo:Nat}{w:World}{jb:Nat}
theorem five{α:Type}{l:List α}(h:l.length=5):∃a b c d e,l=[a,b,c,d,e]:=by
 match l,h with
 |[a,b,c,d,e],_=>exact⟨a,b,c,d,e,rfl⟩
abbrev V4:=Value×Value×Value×Value
def dR(t:V4):List Value:=[t.1,t.2.1,t.2.2.1,t.2.2.2]
def yu(a:List V4):List Value:=a.flatMap dR
theorem sg(b:List V4):(yu b).length=b.length*4:=by
 induction b with
 |nil=>rfl
 |cons a l c=>simp[yu,dR] at c ⊢;omega
theorem rq:∀(a:List V4) (k:Nat) (b:k<a.length),(yu a)[k*4]?=some a[k].1/\(yu a)[k*4+1]?=some a[k].2.1/\(yu a)[k*4+2]?=some a[k].2.2.1/\(yu a)[k*4+3]?=some a[k].2.2.2
 |[],k,b=>by simp at b
 |y::r,0,_=>by simp[yu,dR]
 |y::r,k+1,b=>by
  have:=rq r k (by simpa using b);simp only[yu,uo,dR] at this ⊢;rw[show(k+1)*4=k*4+1+1+1+1 from by omega,show k*4+1+1+1+1+2=k*4+2+1+1+1+1 from by omega,show k*4+1+1+1+1+3=k*4+3+1+1+1+1 from by omega];simpa using this
def gJ(s:yJ)(t:Nat×List Nat):V4:=(.pointer (some ⟨t.1,0,none⟩),.int .i64 (s.qi.getD 0 0:Nat),.int .i64 (s.qi.getD 1 0:Nat),.int .i64 (s.qi.getD 2 0:Nat))
def kS(b:sG)(t:Value×Nat×List Nat):V4:=(.int .i64 b.lit.pred,t.1,.int .i64 b.jd,.pointer (some ⟨t.2.1,0,none⟩))
def jV(hs:List (Nat×Nat)):List Value:=hs.flatMap fun h=>[.int .i64 (h.1:Nat),.int .i64 (h.2:Nat)]
structure xp where
 tv:Value
 sv:Value
 bv:Value
 hvs:List Value
 tbs:List (Nat×List Nat)
 bps:List (Value×Nat×List Nat)
def um(J:zy)(P:xp):List Value:=
 [.int .i64 J.head.pred,P.tv,.int .i64 J.vars,P.sv,P.bv]++P.hvs++J.jg.map (Value.int .i64)++[.int .i64 J.last]++J.ja.map Qb++J.from.map Qb++[.int .i64 J.ql,.int .i64 J.jf]
structure PP (lo:Nat) (w:World) (jb:Nat) (J:zy) (P:xp):Prop where
 low:lo<=jb
 box:Py w jb (um J P).toArray 310
 head:yh lo w P.tv J.head.qg
 qy:w.ownsRow lo 323 4 P.sv J.qy.length (yu (List.zipWith gJ J.qy P.tbs))
 slen:P.tbs.length=J.qy.length
 tries:∀k (_:k<J.qy.length) (_:k<P.tbs.length),zY lo w P.tbs[k].1 J.qy[k].rows P.tbs[k].2
 qi:∀s∈J.qy,s.qi.length=3
 bars:w.ownsRow lo 325 4 P.bv J.bars.length (yu (List.zipWith kS J.bars P.bps))
 blen:P.bps.length=J.bars.length
 ji:∀k (_:k<J.bars.length) (_:k<P.bps.length),yh lo w P.bps[k].1 J.bars[k].lit.qg/\zY lo w P.bps[k].2.1 J.bars[k].rows P.bps[k].2.2
 hlen:P.hvs.length=5/\J.je.length=5
 je:∀p (_:p<J.je.length) (_:p<P.hvs.length),w.ownsRow lo 327 2 P.hvs[p] J.je[p].length (jV J.je[p])/\J.je[p].length<=1000/\∀h∈J.je[p],h.1<=1000000/\h.2<=1000000
 jk:J.jg.length=5/\J.ja.length=5/\J.from.length=5
 few:J.qy.length<=1000/\J.bars.length<=1000/\J.vars<=1000000
theorem zY.notin{tb:Nat}{T:zi}{fp:List Nat}(h:zY lo w tb T fp){b:Nat}{c:Array Value}{t:TypeId}(f:Py w b c t)(l:t≠229)(k:t≠273)(j:t≠3):b∉fp:=by
 obtain⟨m,n,d,rfl⟩:=h;intro a;simp only[Qv,zu,zX] at a;rcases a with a|a|a
 ·subst a;have q:=d.box;unfold Py at q f;rw[f] at q;simp at q;exact l q.2
 ·exact xM d.qi f (Ne.symm k) (yw a) rfl
 ·obtain⟨i,g,e|e⟩:=ef a
  ·exact xM (d.leap i (by rw[←d.len];exact g) g) f (Ne.symm j) (b:=b) (by rw[e];rfl) rfl
  ·exact xM (d.down i (by rw[←d.len];exact g) g) f (Ne.symm j) (b:=b) (by rw[e];rfl) rfl
theorem yh.save{a:World}{v:Value}{ts:List ya}{N:List Nat}(h:yh lo w v ts)(hs:zd N w a)(c:∀b,v.ownBlock=some b->b∉N):yh lo a v ts:=⟨yH h.own hs c,h.len,h.num⟩
theorem PP.below{w d:World}{jb:Nat}{J:zy}{P:xp}(h:PP lo w jb J P)(c:Below w.heap.size w d):PP lo d jb J P:=
 ⟨h.low,h.box.below c,h.head.below c,zC h.qy c,h.slen,fun k a b=>(h.tries k a b).below c,h.qi,zC h.bars c,h.blen,fun k a b=>⟨(h.ji k a b).1.below c,(h.ji k a b).2.below c⟩,h.hlen,fun p a b=>⟨zC (h.je p a b).1 c,(h.je p a b).2⟩,h.jk,h.few⟩
theorem PP.rebox{l:World}{J c:zy}{P:xp}(h:PP lo w jb J P)(hs:zd [jb] w l)(m:Py l jb (um c P).toArray 310)(E:c.head=J.head)(f:c.qy=J.qy)(g:c.bars=J.bars)(n:c.je=J.je)(y:c.vars=J.vars)(B:c.jg.length=5/\c.ja.length=5/\c.from.length=5):PP lo l jb c P:=by
 have i:∀{C:Nat} {e:TypeId} {F:Nat} {v:Value} {A:Nat} {u:List Value},w.ownsRow C e F v A u->e≠310->∀b,v.ownBlock=some b->b∉[jb]:=fun D x b o j=>xM D h.box x o (by simpa using j);have t:∀{r:Nat} {T:zi} {q:List Nat},zY lo w r T q->zY lo l r T q:=fun s=>s.save hs (fun b z j=>by simp at j;subst j;exact s.notin h.box (by decide) (by decide) (by decide) z);refine⟨h.low,m,by rw[E];exact h.head.save hs (i h.head.own (by decide)),by rw[f];exact yH h.qy hs (i h.qy (by decide)),by rw[f];exact h.slen,fun k a b=>?_,by rw[f];exact h.qi,by rw[g];exact yH h.bars hs (i h.bars (by decide)),by rw[g];exact h.blen,fun k a b=>?_,by rw[n];exact h.hlen,fun p a b=>?_,B,by rw[f,g,y];exact h.few⟩
 ·have d:k<J.qy.length:=by rw[←f];exact a
  simp only[f];exact t (h.tries k d b)
 ·have d:k<J.bars.length:=by rw[←g];exact a
  simp only[g];exact⟨(h.ji k d b).1.save hs (i (h.ji k d b).1.own (by decide)),t (h.ji k d b).2⟩
 ·have d:p<J.je.length:=by rw[←n];exact a
  simp only[n];exact⟨yH (h.je p d b).1 hs (i (h.je p d b).1 (by decide)),(h.je p d b).2⟩
theorem PP.at{J:zy}{P:xp}(h:PP lo w jb J P):jb<w.heap.size/\(∀o,w.frozen? ⟨jb,o,none⟩=false)/\w.cell? ⟨jb,0,none⟩=some (.int .i64 J.head.pred)/\w.cell? ⟨jb,1,none⟩=some P.tv/\w.cell? ⟨jb,2,none⟩=some (.int .i64 J.vars)/\w.cell? ⟨jb,3,none⟩=some P.sv/\w.cell? ⟨jb,4,none⟩=some P.bv/\w.cell? ⟨jb,15,none⟩=some (.int .i64 J.last)/\w.cell? ⟨jb,26,none⟩=some (.int .i64 J.ql)/\w.cell? ⟨jb,27,none⟩=some (.int .i64 J.jf):=by
 obtain⟨f,g⟩:=h.box.rules;obtain⟨c,j,b⟩:=h.jk;obtain⟨B,t,l,z,v,i⟩:=five h.hlen.1;obtain⟨y,n,A,u,k,a⟩:=five c;obtain⟨s,x,r,p,C,d⟩:=five j;obtain⟨D,E,m,q,F,e⟩:=five b;refine⟨h.box.lt,g,?_,?_,?_,?_,?_,?_,?_,?_⟩<;>rw[f]<;>simp[um,i,a,d,e]
theorem PP.setMoves{J:zy}{P:xp}(h:PP lo w jb J P)(m:Int):PP lo (w.setCell ⟨jb,27,none⟩ (.int .i64 m)) jb {J with jf:=m} P:=by
 obtain⟨c,i,b⟩:=h.jk;refine h.rebox (zd.set _ _ _ _) ?_ rfl rfl rfl rfl rfl h.jk;obtain⟨A,s,k,y,t,g⟩:=five h.hlen.1;obtain⟨x,n,z,u,j,a⟩:=five c;obtain⟨r,v,q,o,B,d⟩:=five i;obtain⟨C,D,l,p,E,e⟩:=five b;have f:=h.box.set 27 (.int .i64 m);simpa [um,g,a,d,e] using f
theorem Bl(w:World)(jb:Nat)(J:zy)(P:xp)(s l:Nat)(h:PP lo w jb J P):
  Calls prog 231 #[.pointer (some ⟨jb,0,none⟩),.agg #[.int .i64 s,.int .i64 l]] w fun e o=>e=.returned (.bool (vi J (s,l)))/\Below w.heap.size w o:=by
 obtain⟨g,j,_,_,_,m,_⟩:=h.at;obtain⟨p,i,k⟩:=zs h.qy;have d:Hid (vi J (s,l)=(decide (s<J.qy.length)&&decide (l<3))):=rfl;generalize J.qy.length=n at *;by_cases b:s<n
 ·by_cases f:l<3
  ·have a:(s:Int)<(n:Int):=by omega
   have c:(l:Int)<3:=by omega
   go_enter func231,ntmps231;go_wp2;go_quiet (fail)
   go_wp2;go_ret;exact⟨by rw[d.out];simp[b,f],zL (by go_grown) _⟩
  ·have a:(s:Int)<(n:Int):=by omega
   have c:decide ((l:Int)<3)=false:=decide_eq_false (by omega);go_enter func231,ntmps231;go_wp2;go_quiet (fail)
   go_wp2;go_ret;exact⟨by rw[d.out];simp[b,f],zL (by go_grown) _⟩
 ·have a:decide ((s:Int)<(n:Int))=false:=decide_eq_false (by omega);go_enter func231,ntmps231;go_wp2;go_quiet (fail)
  go_wp2;go_ret;exact⟨by rw[d.out];simp[b],zL (by go_grown) _⟩
end
section
open Go.Proofs.Tryz
variable {lo:Nat}
theorem PP.side{w:World}{i:Nat}{J:zy}{P:xp}(h:PP lo w i J P)(s l:Nat)(hs:s<J.qy.length)(r:l<3):
  ∃a b m q,P.sv=.slice (some ⟨a,0,none⟩) J.qy.length b/\a<w.heap.size/\a≠i/\w.cell? ⟨a,s*4,none⟩=some (.pointer (some ⟨m,0,none⟩))/\w.cell? ⟨a,s*4+1+l,none⟩=some (.int .i64 ((J.qy[s].qi.getD l 0:Nat):Int))/\zY lo w m J.qy[s].rows q/\(∀o,w.frozen? ⟨a,o,none⟩=false):=by
 obtain⟨a,b,f,_,e,d⟩:=yC h.qy (by omega);have g:s<P.tbs.length:=by rw[h.slen];exact hs
 obtain⟨j,k,p,n⟩:=rq (List.zipWith gJ J.qy P.tbs) s (by simp;omega);simp only[List.getElem_zipWith,gJ] at j k p n;have c:=h.qy;rw[f] at c;refine⟨a,b,P.tbs[s].1,P.tbs[s].2,f,e,xM h.qy h.box (by decide) (by rw[f];rfl),d _ _ j,?_,h.tries s hs g,qF c⟩;obtain rfl|rfl|rfl:l=0∨l=1∨l=2:=by omega
 ·exact d _ _ k
 ·exact d _ _ p
 ·exact d _ _ n
theorem NH(w:World)(b:Nat)(J:zy)(P:xp)(s l f:Nat)(h:PP lo w b J P):
  Calls prog 229 #[.pointer (some ⟨b,0,none⟩),.agg #[.int .i64 s,.int .i64 l],.int .i64 f] w fun e t=>e=.returned (qW (vB J (s,l) f).2)/\PP lo t b (vB J (s,l) f).1 P/\zd [b] w t:=by
 have r:=Px fun W Y=>Bl W b J P s l (h.below Y);have G:=Px h;cases d:vi J (s,l) with
 |false=>
  have j:Hid (vB J (s,l) f=(J,none)):=by simp[Hid,vB,d]
  go_enter func229,ntmps229;go_wp2_with (first|(go_at_call 231;refine(r.out _ (by exact(by go_grown))).mono ?_;rintro e i ⟨rfl,c⟩;have a:Below w.heap.size w i:=zP (by go_grown) c (zf _)))
  go_ret2
  exact⟨by rw[j.out];rfl,by rw[j.out];exact G.out.below a,zd.of a⟩
 |true=>
  have u:s<J.qy.length/\l<3:=by simpa [vi] using d
  obtain⟨S,hl⟩:=u;have j:Hid (vB J (s,l) f=({J with jf:=IntKind.i64.wrap (J.jf+1)},yz J.qy[s].rows (J.qy[s].qi.getD l 0) f)):=by simp[Hid,vB,d,List.getD_eq_getElem?_getD,S]
  obtain⟨aa,_⟩:=h.at;go_enter func229,ntmps229;go_wp2_with (first|(go_at_call 231;refine(r.out _ (by exact(by go_grown))).mono ?_;rintro e i ⟨rfl,c⟩;have a:Below w.heap.size w i:=zP (by go_grown) c (zf _);have g:=G.out.below a;obtain⟨R,L,_,_,_,V,_,_,_,N⟩:=g.at;have p:=(Py.new w #[.int .i64 s,.int .i64 l] 327).below c;obtain⟨z,D,U⟩:=p.boxed;have C:=Px g;clear g))
  have A:IntKind.i64.wrap (J.jf+1)=wrap64 (J.jf+1):=by rw[IntKind.wrap_i64];unfold wrap64;rfl
  rw[A] at j;have q:Hid (PP lo (i.setCell ⟨b,27,none⟩ (.int .i64 (wrap64 (J.jf+1)))) b {J with jf:=wrap64 (J.jf+1)} P):=C.out.setMoves _;have E:w.heap.size≠b:=by omega
  have m:=p.set_ne E 27 (.int .i64 (wrap64 (J.jf+1)));have v:zd [b] w (i.setCell ⟨b,27,none⟩ (.int .i64 (wrap64 (J.jf+1)))):=(zd.of a).trans (zd.set _ _ _ _);generalize i.setCell ⟨b,27,none⟩ (.int .i64 (wrap64 (J.jf+1)))=O at *;have o:=q.out;obtain⟨I,K,_,_,_,X,_⟩:=o.at;obtain⟨Z,Q,k,y,H,F,_,ab,T,x,_⟩:=o.side s l S hl;obtain⟨z,D⟩:=m.rules;have B:Hid (∀n,Calls prog 167 #[.pointer (some ⟨k,0,none⟩),.int .i64 ((J.qy[s].qi.getD l 0:Nat):Int),.int .i64 f] (O.drewN n) fun e t=>e=.returned (.tuple #[.int .i64 (((yz J.qy[s].rows (J.qy[s].qi.getD l 0) f).getD 0:Nat):Int),.bool (yz J.qy[s].rows (J.qy[s].qi.getD l 0) f).isSome])/\t=O.drewN n):=fun n=>ro _ k _ y _ f (x.below (zL (zo _ _) n));generalize J.qy[s].qi.getD l 0=nd at *;go_quiet ((go_at_call 167;exact Calls.quiet_of_same (B.out _)))
  go_wp2;go_ret2
  exact⟨by rw[j.out];rfl,by rw[j.out];exact q.out.below (zL (zo _ _) _),v.newer (zd.of (M:=[]) (zL (zo _ _) _)) (by simp)⟩
theorem eV:∀(hs:List (Nat×Nat)) (k:Nat) (a:k<hs.length),(jV hs)[k*2]?=some (.int .i64 (hs[k].1:Nat))/\(jV hs)[k*2+1]?=some (.int .i64 (hs[k].2:Nat))
 |[],k,a=>by simp at a
 |p::r,0,_=>by simp[jV]
 |p::r,k+1,a=>by
  have:=eV r k (by simpa using a);simp only[jV,uo] at this ⊢;rw[show(k+1)*2=k*2+1+1 from by omega,show k*2+1+1+1=k*2+1+1+1 from rfl];simpa using this
theorem PP.hold{w:World}{j:Nat}{J:zy}{P:xp}(h:PP lo w j J P)(p:Nat)(r:p<5):∃g b,w.cell? ⟨j,5+p,none⟩=some (.slice g (J.je.getD p []).length b)/\(J.je.getD p []).length<=1000/\∀k (o:k<(J.je.getD p []).length),∃a,g=some ⟨a,0,none⟩/\a<w.heap.size/\a≠j/\w.cell? ⟨a,k*2,none⟩=some (.int .i64 ((J.je.getD p [])[k].1:Nat))/\w.cell? ⟨a,k*2+1,none⟩=some (.int .i64 ((J.je.getD p [])[k].2:Nat)):=by
 have q:p<J.je.length:=by rw[h.hlen.2];exact r
 have t:p<P.hvs.length:=by rw[h.hlen.1];exact r
 have e:J.je.getD p []=J.je[p]:=by simp[List.getD_eq_getElem?_getD,q]
 rw[e];obtain⟨l,x,_⟩:=h.je p q t;obtain⟨g,b,m⟩:=zs l;obtain⟨s,_⟩:=h.box.rules;refine⟨g,b,?_,x,fun k o=>?_⟩
 ·rw[←m,s];obtain⟨D,A,z,C,B,y⟩:=five h.hlen.1;obtain rfl|rfl|rfl|rfl|rfl:p=0∨p=1∨p=2∨p=3∨p=4:=by omega
  all_goals simp[um,y]
 ·obtain⟨a,n,f,_,i,d⟩:=yC l (by omega);have c:=m.symm.trans f;simp only[Value.slice.injEq] at c;obtain⟨v,u⟩:=eV J.je[p] k o;exact⟨a,c.1,i,xM l h.box (by decide) (by rw[f];rfl),d _ _ v,d _ _ u⟩
theorem Mz(J:zy)(h:Nat×Nat)(f:Nat):(vB J h f).1.je=J.je:=by unfold vB;split<;>rfl
theorem NU(w:World)(x:Nat)(J:zy)(P:xp)(p f n:Nat)(O:zy)(r:Option Nat)(h:PP lo w x J P)(C:dB n J p f=some (O,r)):
  Calls prog 227 #[.pointer (some ⟨x,0,none⟩),.int .i64 p,.int .i64 f] w fun e T=>e=.returned (qW r)/\PP lo T x O P/\zd [x] w T:=by
 have HJ:=Px h;unfold dB at C;by_cases h5:p≥5
 ·rw[zb (zg h5)] at C;simp only[zr,yc] at C;obtain⟨rfl,rfl⟩:=C;clear h;go_enter func227,ntmps227;go_wp2;go_ret2
  exact⟨rfl,HJ.out,zd.refl _ _⟩
 ·obtain⟨ao,ar,E,R,ac⟩:=h.hold p (by omega);clear ac;obtain⟨ap,aq,_⟩:=h.at;by_cases h0:(J.je.getD p []).length=0
  ·rw[zb (ze h0)] at C;simp only[zr,yc] at C;obtain⟨rfl,rfl⟩:=C;clear h;generalize (J.je.getD p []).length=hn at *;subst h0;go_enter func227,ntmps227;go_wp2;go_ret2
   exact⟨rfl,HJ.out,zd.refl _ _⟩
  ·rw[za (by omega)] at C;have HR:=Px C;clear C h;have F:(J.je.getD p []).length>0:=by omega
   obtain⟨d,L⟩:∃d,d=J.je.getD p []:=⟨_,rfl⟩;rw[←L] at HR E R F;have V:=Px L;clear L;have ah:((d.length:Int) == 0)=false:=beq_eq_false_iff_ne.2 (by omega);go_enter func227,ntmps227;go_wp2;go_loopg [8,9,10] n (fun k v8 v9 aa wr=>∃(A:zy) (at' c a:Nat),v8=.int .i64 at'/\v9=.int .i64 c/\aa=.int .i64 a/\Hid (kH k A d at' c a=some (O,r))/\Hid (PP lo wr x A P)/\Hid (A.je=J.je)/\zd [x] w wr/\c<=d.length/\a<d.length)
   case atStart=>exact⟨J,f,0,0,rfl,rfl,rfl,HR,HJ,rfl,zd.refl _ _,by omega,F⟩
   case round=>
    clear E;obtain⟨A,at',c,a,rfl,rfl,rfl,HQ,N,Z,u,am,X⟩:=hrel;have H:=N.out;obtain⟨ae,af,_⟩:=H.at;obtain⟨an,ag,E,_,s⟩:=H.hold p (by omega);rw[Z.out,←V.out] at E s;obtain⟨hb,ab,aj,ai,al,ak⟩:=s a X;subst ab;clear s H;cases gk with
    |zero=>have q:=HQ.out;simp[kH] at q
    |succ m=>
     have q:=HQ.out;unfold kH at q;by_cases S:c<d.length
     ·rw[zb S] at q;have eg:d.getD a (0,0)=d[a]:=by simp[List.getD_eq_getElem?_getD,X]
      rw[eg] at q;have o:Hid (Calls prog 229 #[.pointer (some ⟨x,0,none⟩),.agg #[.int .i64 (d[a].1:Nat),.int .i64 (d[a].2:Nat)],.int .i64 at'] wr fun e T=>e=.returned (.tuple #[.int .i64 (((vB A d[a] at').2.getD 0:Nat):Int),.bool (vB A d[a] at').2.isSome])/\PP lo T x (vB A d[a] at').1 P/\zd [x] wr T):=NH wr x A P d[a].1 d[a].2 at' N.out;have M:=Mz A d[a] at';generalize ad:vB A d[a] at'=lj at *;clear ad;obtain⟨I,r2⟩:=lj;generalize d[a]=hd at *;simp only at q o M;cases r2 with
      |none=>
       simp only[zr,yc] at q;obtain⟨Y,Q⟩:=q;simp only[kZ,gd] at o;have HE:Hid (O=I/\r=none):=⟨Y.symm,Q.symm⟩;clear Y Q;go_wp2_with (first|(go_at_call 229;refine o.out.mono ?_;rintro e G ⟨rfl,b,j⟩;have l:=Px b;clear b))
       go_ret2
       exact⟨by rw[HE.out.2];rfl,by rw[HE.out.1];exact l.out,u.trans j⟩
      |some v=>
       simp only[ux,jG] at o;have i:Hid (kH m I d (if v>at' then v else at') ((if v>at' then 0 else c)+1) (if a+1≥d.length then 0 else a+1)=some (O,r)):=q;have z:=Px (M.trans Z.out);have D:Hid (∀W,PP lo W x I P->∃t g,W.cell? ⟨x,5+p,none⟩=some (.slice t d.length g)):=fun W hW=>by
        obtain⟨t,g,q1,_⟩:=hW.hold p (by omega);rw[z.out,←V.out] at q1;exact⟨t,g,q1⟩
       clear q M;by_cases hv:v>at'
       ·rw[zb hv,zb hv] at i;by_cases U:a+1≥d.length
        ·rw[zb U] at i;go_wp2_with (first|(go_at_call 229;refine o.out.mono ?_;rintro e G ⟨rfl,b,j⟩;have l:=Px b;obtain⟨t,g,K⟩:=D.out G b;obtain⟨y,B,_⟩:=b.at;clear b))
         go_roundg m
         case measure=>omega
         case rel=>exact⟨I,v,1,0,rfl,rfl,rfl,i,l,z,u.trans j,by omega,by omega⟩
        ·rw[za U] at i;go_wp2_with (first|(go_at_call 229;refine o.out.mono ?_;rintro e G ⟨rfl,b,j⟩;have l:=Px b;obtain⟨t,g,K⟩:=D.out G b;obtain⟨y,B,_⟩:=b.at;clear b))
         go_roundg m
         case measure=>omega
         case rel=>exact⟨I,v,1,a+1,rfl,rfl,by go_num,i,l,z,u.trans j,by omega,by omega⟩
       ·rw[za hv,za hv] at i;by_cases U:a+1≥d.length
        ·rw[zb U] at i;go_wp2_with (first|(go_at_call 229;refine o.out.mono ?_;rintro e G ⟨rfl,b,j⟩;have l:=Px b;obtain⟨t,g,K⟩:=D.out G b;obtain⟨y,B,_⟩:=b.at;clear b))
         go_roundg m
         case measure=>omega
         case rel=>exact⟨I,at',c+1,0,rfl,by go_num,rfl,i,l,z,u.trans j,by omega,by omega⟩
        ·rw[za U] at i;go_wp2_with (first|(go_at_call 229;refine o.out.mono ?_;rintro e G ⟨rfl,b,j⟩;have l:=Px b;obtain⟨t,g,K⟩:=D.out G b;obtain⟨y,B,_⟩:=b.at;clear b))
         go_roundg m
         case measure=>omega
         case rel=>exact⟨I,at',c+1,a+1,rfl,by go_num,by go_num,i,l,z,u.trans j,by omega,by omega⟩
     ·rw[za S] at q;simp only[zr,yc] at q;obtain⟨Y,Q⟩:=q;have HE:Hid (O=A/\r=some at'):=⟨Y.symm,Q.symm⟩;clear Y Q;go_wp2;go_ret2
      exact⟨by rw[HE.out.2];rfl,by rw[HE.out.1];exact N.out,u⟩
theorem Eo:∀(a:List V4) (k:Nat) (_:k<a.length) (u:Value),(yu a).set (k*4+2) u=yu (a.modify k fun y=>(y.1,y.2.1,u,y.2.2.2))
 |[],k,b,_=>by simp at b
 |y::r,0,_,u=>by simp[yu,dR]
 |y::r,k+1,b,u=>by
  have:=Eo r k (by simpa using b) u;simp only[yu,uo,dR,List.modify_succ_cons] at this ⊢;rw[show(k+1)*4+2=k*4+2+1+1+1+1 from by omega];simpa using this
theorem DI:∀(a:List V4) (k:Nat) (_:k<a.length) (u:Value),(yu a).set (k*4+3) u=yu (a.modify k fun y=>(y.1,y.2.1,y.2.2.1,u))
 |[],k,b,_=>by simp at b
 |y::r,0,_,u=>by simp[yu,dR]
 |y::r,k+1,b,u=>by
  have:=DI r k (by simpa using b) u;simp only[yu,uo,dR,List.modify_succ_cons] at this ⊢;rw[show(k+1)*4+3=k*4+3+1+1+1+1 from by omega];simpa using this
theorem PP.setNode{w:World}{E:Nat}{J:zy}{P:xp}(h:PP lo w E J P)(s i n:Nat)(hs:s<J.qy.length)(K:i=1∨i=2){l cap:Nat}(z:P.sv=.slice (some ⟨l,0,none⟩) J.qy.length cap):
  PP lo (w.setCell ⟨l,s*4+1+i,none⟩ (.int .i64 n)) E {J with qy:=J.qy.set s {J.qy[s] with qi:=J.qy[s].qi.set i n}} P:=by
 have c:=zd.set w l (s*4+1+i) (.int .i64 n);have d:=h.qy;rw[z] at d;have M:s<P.tbs.length:=by rw[h.slen];exact hs
 have f:=h.qi _ (zv hs);have m:∀{O:Nat} {e:TypeId} {S:Nat} {v:Value} {N:Nat} {F:List Value},w.ownsRow O e S v N F->e≠323->∀b,v.ownBlock=some b->b∉[l]:=fun R G b u g=>f8 R d G u (by simp at g;rw[g];rfl);obtain⟨o,r⟩:=Nv d;have t:∀{B:Nat} {T:zi} {A:List Nat},zY lo w B T A->zY lo (w.setCell ⟨l,s*4+1+i,none⟩ (.int .i64 n)) B T A:=fun D=>D.save c (fun b I g=>by simp at g;subst g;exact D.notin (show Py w _ o 323 from r) (by decide) (by decide) (by decide) I);refine⟨h.low,h.box.save c (by have:=xM d h.box (by decide) rfl;simpa using Ne.symm this),h.head.save c (m h.head.own (by decide)),?_,by simpa using h.slen,fun k a b=>?_,fun x H=>?_,yH h.bars c (m h.bars (by decide)),h.blen,fun k a b=>⟨(h.ji k a b).1.save c (m (h.ji k a b).1.own (by decide)),t (h.ji k a b).2⟩,h.hlen,fun p a b=>⟨yH (h.je p a b).1 c (m (h.je p a b).1 (by decide)),(h.je p a b).2⟩,h.jk,by simpa using h.few⟩
 ·have y:(yu (List.zipWith gJ J.qy P.tbs)).length=J.qy.length*4:=by rw[sg];simp[h.slen]
  have q:=uI d (s*4+1+i) (by omega) (.int .i64 n);rw[z];have e:(yu (List.zipWith gJ J.qy P.tbs)).set (s*4+1+i) (.int .i64 n)=yu (List.zipWith gJ (J.qy.set s {J.qy[s] with qi:=J.qy[s].qi.set i n}) P.tbs):=by
   have C:s<(List.zipWith gJ J.qy P.tbs).length:=by simp;omega
   rcases K with rfl|rfl
   ·rw[show s*4+1+1=s*4+2 from by omega,Eo _ s C];congr 1;apply gS
    ·simp
    ·intro j Q L;by_cases e:s=j
     ·subst e;simp[gJ,List.getD_eq_getElem?_getD,f]
     ·simp[e]
   ·rw[show s*4+1+2=s*4+3 from by omega,DI _ s C];congr 1;apply gS
    ·simp
    ·intro j Q L;by_cases e:s=j
     ·subst e;simp[gJ,List.getD_eq_getElem?_getD,f]
     ·simp[e]
  rw[e] at q;simpa using q
 ·simp only[l3] at a;simp only[mJ];split
  ·rename_i e;subst e;exact t (h.tries s hs b)
  ·exact t (h.tries k a b)
 ·rcases nY H with q|q
  ·exact h.qi x q
  ·subst q;simp[f]
theorem Jg(w:World)(C:Nat)(J:zy)(P:xp)(s l v:Nat)(h:PP lo w C J P)(an:l<=1000000):
  Calls prog 230 #[.pointer (some ⟨C,0,none⟩),.agg #[.int .i64 s,.int .i64 l],.int .i64 v] w fun e V=>e=.returned (.tuple #[])/\PP lo V C (uX v J (s,l)) P/\zd P.sv.ownBlock.toList w V:=by
 have i:=Px fun W hW=>Bl W C J P s l (h.below hW);have U:=Px h;cases b:vi J (s,l) with
 |false=>
  have Q:Hid (uX v J (s,l)=J):=by simp[Hid,uX,b]
  rw[b] at i;clear b h;go_enter func230,ntmps230;go_wp2_with (first|(go_at_call 231;refine(i.out _ (by exact(by go_grown))).mono ?_;rintro e f ⟨rfl,g⟩;have c:Below w.heap.size w f:=zP (by go_grown) g (zf _)))
  (try simp only[Exit.inBlock,Exit.then]);refine zK (results_none rfl _ _ _) rfl ?_
  exact⟨rfl,by rw[Q.out];exact U.out.below c,zd.of c⟩
 |true=>
  have Y:s<J.qy.length/\l<3:=by simpa [vi] using b
  obtain⟨T,hl⟩:=Y;by_cases O:l+1≥3
  ·have Q:Hid (uX v J (s,l)=J):=by simp[Hid,uX,O]
   rw[b] at i;clear b h;go_enter func230,ntmps230;go_wp2_with (first|(go_at_call 231;refine(i.out _ (by exact(by go_grown))).mono ?_;rintro e f ⟨rfl,g⟩;have c:Below w.heap.size w f:=zP (by go_grown) g (zf _);have m:=(Py.new w #[.int .i64 s,.int .i64 l] 327).below g;obtain⟨z,B,t⟩:=m.boxed))
   (try simp only[Exit.inBlock,Exit.then]);refine zK (results_none rfl _ _ _) rfl ?_
   exact⟨rfl,by rw[Q.out];exact U.out.below c,zd.of c⟩
  ·have Q:Hid (uX v J (s,l)={J with qy:=J.qy.set s {J.qy[s] with qi:=J.qy[s].qi.set (l+1) ((zG J.qy[s].rows (J.qy[s].qi.getD l 0) v).getD 0)}}):=by simp[Hid,uX,b,O,List.getD_eq_getElem?_getD,T]
   rw[b] at i;have aq:(s:Int)<(J.qy.length:Int):=by omega
   have ao:(l:Int)<3:=by omega
   have aj:(l:Int)+1<3:=by omega
   obtain⟨am,_⟩:=h.at;clear b h;go_enter func230,ntmps230;go_wp2_with (first|(go_at_call 231;refine(i.out _ (by exact(by go_grown))).mono ?_;rintro e f ⟨rfl,g⟩;have c:Below w.heap.size w f:=zP (by go_grown) g (zf _);have m:=(Py.new w #[.int .i64 s,.int .i64 l] 327).below g;obtain⟨z,B,t⟩:=m.boxed))
   have j:=Px (U.out.below c);have A:=j.out;obtain⟨r,K,_,_,_,y,_⟩:=A.at;obtain⟨D,au,tb,fp,k,I,ap,af,X,H,aa⟩:=A.side s l T hl;rw[k] at y;have L:Hid (∀n,Calls prog 130 #[.pointer (some ⟨tb,0,none⟩),.int .i64 ((J.qy[s].qi.getD l 0:Nat):Int),.int .i64 v] (f.drewN n) fun e V=>e=.returned (.tuple #[.int .i64 (((zG J.qy[s].rows (J.qy[s].qi.getD l 0) v).getD 0:Nat):Int),.bool (zG J.qy[s].rows (J.qy[s].qi.getD l 0) v).isSome])/\V=f.drewN n):=fun n=>mG _ tb _ fp _ v (H.below (zL (zo _ _) n));have E:Hid (∀W n,Below f.heap.size f W->PP lo (W.setCell ⟨D,s*4+1+(l+1),none⟩ (.int .i64 ((n:Nat):Int))) C {J with qy:=J.qy.set s {J.qy[s] with qi:=J.qy[s].qi.set (l+1) n}} P):=fun W n hW=>(j.out.below hW).setNode s (l+1) n T (by omega) k;have ag:Hid (P.sv.ownBlock.toList=[D]):=by rw[Hid,k];rfl
   have x:∃u,f.cell? ⟨D,s*4+1+(l+1),none⟩=some u:=by
    obtain⟨ae,G,ad,ac,a,_,_,_,q,_⟩:=j.out.side s (l+1) T (by omega);rw[k] at a;simp only[Value.slice.injEq,zr,Addr.mk.injEq] at a;obtain⟨⟨rfl,_⟩,_⟩:=a;exact⟨_,q⟩
   obtain⟨u,N⟩:=x;clear H A;generalize (zG J.qy[s].rows (J.qy[s].qi.getD l 0) v).getD 0=dn at *;generalize (zG J.qy[s].rows (J.qy[s].qi.getD l 0) v).isSome=ds at *;generalize J.qy[s].qi.getD l 0=nd at *;go_quiet ((go_at_call 130;exact Calls.quiet_of_same (L.out _)))
   have d:Below f.heap.size f (f.drewN nq):=zL (zo _ _) _;clear z B t r K aa L;have al:=(d.cell (p:=⟨C,3,none⟩) (j.out.box.lt)).trans y;have ah:=zm d I N;have F:=m.below d;have S:=E.out _ dn d;have ak:∀o,(f.drewN nq).frozen? ⟨D,o,none⟩=false:=by
    obtain⟨ae,G,ad,ac,a,_,_,_,_,_,q⟩:=(j.out.below d).side s l T hl;rw[k] at a;simp only[Value.slice.injEq,zr,Addr.mk.injEq] at a;obtain⟨⟨rfl,_⟩,_⟩:=a;exact q
   have Z:zd [D] w (f.drewN nq):=zd.of (P3 c d);have ai:=xG I d.size;have r:=xG j.out.box.lt d.size;have ar:D≠w.heap.size:=fun e=>by
    have R:=j.out.qy;rw[k] at R;exact xM R m (by decide) rfl e
   generalize f.drewN nq=w2 at *;have ab:=Px S;clear S E y N af X m U i;obtain⟨z,B,t⟩:=F.boxed;go_wp2;go_region
   all_goals
    go_wp2;go_end0
    exact⟨rfl,by rw[Q.out];exact ab.out.below (zo _ _).drew,by rw[ag.out];exact(Z.trans (zd.set _ _ _ _)).newer (zd.of (M:=[]) (zo _ _).drew) (by simp)⟩
end
section
open Go.Proofs.Tryz
variable {lo:Nat}{w:World}{jb:Nat}{J:zy}{P:xp}
theorem PP.hold2(h:PP lo w jb J P)(p:Nat)(s:p<5):∃c a,P.hvs[p]?=some (.slice c (J.je.getD p []).length a)/\w.cell? ⟨jb,5+p,none⟩=some (.slice c (J.je.getD p []).length a)/\(J.je.getD p []).length<=1000/\(∀k (m:k<(J.je.getD p []).length),∃b,c=some ⟨b,0,none⟩/\b<w.heap.size/\w.cell? ⟨b,k*2,none⟩=some (.int .i64 ((J.je.getD p [])[k].1:Nat))/\w.cell? ⟨b,k*2+1,none⟩=some (.int .i64 ((J.je.getD p [])[k].2:Nat))/\(J.je.getD p [])[k].2<=1000000):=by
 have q:p<J.je.length:=by rw[h.hlen.2];exact s
 have o:p<P.hvs.length:=by rw[h.hlen.1];exact s
 have e:J.je.getD p []=J.je[p]:=by simp[List.getD_eq_getElem?_getD,q]
 rw[e];obtain⟨r,x,l⟩:=h.je p q o;obtain⟨c,a,g⟩:=zs r;obtain⟨t,_⟩:=h.box.rules;refine⟨c,a,by rw[yr o,g],?_,x,fun k m=>?_⟩
 ·rw[←g,t];obtain⟨D,A,z,C,B,y⟩:=five h.hlen.1;obtain rfl|rfl|rfl|rfl|rfl:p=0∨p=1∨p=2∨p=3∨p=4:=by omega
  all_goals simp[um,y]
 ·obtain⟨b,n,j,_,i,f⟩:=yC r (by omega);have d:=g.symm.trans j;simp only[Value.slice.injEq] at d;obtain⟨v,u⟩:=eV J.je[p] k m;exact⟨b,d.1,i,f _ _ v,f _ _ u,(l _ (zv m)).2⟩
def kK(J:zy)(p v:Nat):zy:={J with ja:=J.ja.set p v,«from»:=(if p+1<5 then(J.from.set p (v+1)).set (p+1) 0 else J.from.set p (v+1))}
theorem KY(J:zy)(p v:Nat)(a:p<5):ue J p v=(J.je.getD p []).foldl (uX v) (kK J p v):=by unfold ue;rw[za (by omega)];rfl
theorem PP.setVal(h:PP lo w jb J P)(p v:Nat)(j:p+1<5):PP lo (((w.setCell ⟨jb,16+p,none⟩ (.int .i64 v)).setCell ⟨jb,21+p,none⟩ (.int .i64 ((v:Int)+1))).setCell ⟨jb,21+(p+1),none⟩ (.int .i64 0)) jb (kK J p v) P:=by
 obtain⟨b,c,a⟩:=h.jk;refine h.rebox (((zd.set _ _ _ _).trans (zd.set _ _ _ _)).trans (zd.set _ _ _ _)) ?_ rfl rfl rfl rfl rfl (by simp[kK,j,b,c,a]);obtain⟨C,t,l,A,u,i⟩:=five h.hlen.1;obtain⟨z,n,B,x,k,d⟩:=five b;obtain⟨s,y,r,o,D,e⟩:=five c;obtain⟨E,F,m,q,G,f⟩:=five a;have g:=((h.box.set (16+p) (.int .i64 v)).set (21+p) (.int .i64 ((v:Int)+1))).set (21+(p+1)) (.int .i64 0);obtain rfl|rfl|rfl|rfl:p=0∨p=1∨p=2∨p=3:=by omega
 all_goals simpa [um,kK,i,d,e,f,Qb] using g
theorem PP.setVal4(h:PP lo w jb J P)(p v:Nat)(H:p<5)(s:¬p+1<5):PP lo ((w.setCell ⟨jb,16+p,none⟩ (.int .i64 v)).setCell ⟨jb,21+p,none⟩ (.int .i64 ((v:Int)+1))) jb (kK J p v) P:=by
 obtain rfl:p=4:=by omega
 obtain⟨b,c,a⟩:=h.jk;refine h.rebox ((zd.set _ _ _ _).trans (zd.set _ _ _ _)) ?_ rfl rfl rfl rfl rfl (by simp[kK,b,c,a]);obtain⟨C,t,k,A,u,i⟩:=five h.hlen.1;obtain⟨z,m,B,x,j,d⟩:=five b;obtain⟨r,y,q,n,D,e⟩:=five c;obtain⟨E,F,l,o,G,f⟩:=five a;have g:=(h.box.set (16+4) (.int .i64 v)).set (21+4) (.int .i64 ((v:Int)+1));simpa [um,kK,i,d,e,f,Qb] using g
theorem LY(v:Nat)(J:zy)(h:Nat×Nat):(uX v J h).je=J.je:=by unfold uX;split<;>rfl
theorem Cc(v:Nat):∀(hs:List (Nat×Nat)) (J:zy),(hs.foldl (uX v) J).je=J.je
 |[],J=>rfl
 |h::r,J=>by rw[un,Cc v r,LY]
theorem PP.vals(h:PP lo w jb J P)(p:Nat)(F:p<5):w.cell? ⟨jb,16+p,none⟩=some (.int .i64 (J.ja.getD p 0:Nat))/\w.cell? ⟨jb,21+p,none⟩=some (.int .i64 (J.from.getD p 0:Nat))/\w.cell? ⟨jb,10+p,none⟩=some (.int .i64 (J.jg.getD p 0)):=by
 obtain⟨a,_⟩:=h.box.rules;obtain⟨d,i,c⟩:=h.jk;obtain⟨A,s,k,y,u,g⟩:=five h.hlen.1;obtain⟨x,m,z,t,j,b⟩:=five d;obtain⟨r,v,q,n,B,e⟩:=five i;obtain⟨C,D,l,o,E,f⟩:=five c;rw[a,a,a];obtain rfl|rfl|rfl|rfl|rfl:p=0∨p=1∨p=2∨p=3∨p=4:=by omega
 all_goals simp[um,g,b,e,f,Qb]
theorem OB(w:World)(jb:Nat)(J:zy)(P:xp)(p v:Nat)(h:PP lo w jb J P)(hv:v<=1000000):
  Calls prog 228 #[.pointer (some ⟨jb,0,none⟩),.int .i64 p,.int .i64 v] w fun e o=>e=.returned (.tuple #[])/\PP lo o jb (ue J p v) P/\zd (jb::P.sv.ownBlock.toList) w o:=by
 have U:=Px h;by_cases S:p<5
 ·have A:=Px (KY J p v S);obtain⟨Q,R,_⟩:=h.at;obtain⟨u,t,_⟩:=h.vals p S;by_cases N:p+1<5;obtain⟨_,C,_⟩:=h.vals (p+1) N;have H:(p:Int)<5:=by omega
  have F:(p:Int)+1<5:=by omega
  have g:=h.setVal p v N;have q:zd [jb] w (((w.setCell ⟨jb,16+p,none⟩ (.int .i64 v)).setCell ⟨jb,21+p,none⟩ (.int .i64 ((v:Int)+1))).setCell ⟨jb,21+(p+1),none⟩ (.int .i64 0)):=((zd.set _ _ _ _).trans (zd.set _ _ _ _)).trans (zd.set _ _ _ _);clear h;go_enter func228,ntmps228;go_upto_region 5 with fail
  clear u t C;generalize (((w.setCell ⟨jb,16+p,none⟩ (.int .i64 v)).setCell ⟨jb,21+p,none⟩ (.int .i64 ((v:Int)+1))).setCell ⟨jb,21+(p+1),none⟩ (.int .i64 0))=w1 at *;rotate_left
  have H:(p:Int)<5:=by omega
  have F:¬(p:Int)+1<5:=by omega
  have g:=h.setVal4 p v S N;have q:zd [jb] w ((w.setCell ⟨jb,16+p,none⟩ (.int .i64 v)).setCell ⟨jb,21+p,none⟩ (.int .i64 ((v:Int)+1))):=(zd.set _ _ _ _).trans (zd.set _ _ _ _);clear h;go_enter func228,ntmps228;go_upto_region 5 with fail
  clear u t;generalize ((w.setCell ⟨jb,16+p,none⟩ (.int .i64 v)).setCell ⟨jb,21+p,none⟩ (.int .i64 ((v:Int)+1)))=w1 at *
  all_goals
   have j:=Px g;clear g Q R;obtain⟨ao,ad,b,l,d,_⟩:=j.out.hold2 p (by omega);obtain⟨y,r,_⟩:=j.out.at;rw[show(kK J p v).je=J.je from rfl] at b l d;obtain⟨a,f⟩:∃a,a=J.je.getD p []:=⟨_,rfl⟩;rw[←f] at b l d A;have I:=Px f;have G:=Px b;clear f b;go_wp2;clear l y r;generalize decide ((p:Int)<0)=ac;generalize decide ((5:Int)<=(p:Int))=aa;go_loopw [43] (fun L wr=>∃k:Nat,k<=a.length/\L=.int .i64 k/\Hid (PP lo wr jb ((a.take k).foldl (uX v) (kK J p v)) P)/\zd (jb::P.sv.ownBlock.toList) w wr) (fun i _=>a.length-(intOf i).toNat)
   case atStart=>exact⟨0,zx _,rfl,j,q.more (by simp)⟩
   case round=>
    obtain⟨k,hk,rfl,c,n⟩:=hrel;by_cases s:k<a.length
    ·obtain⟨Y,T,z,_,_,O⟩:=c.out.hold2 p (by omega);rw[Cc,show(kK J p v).je=J.je from rfl,←I.out] at z O;rw[G.out] at z;simp only[zr,Value.slice.injEq] at z;obtain⟨rfl,_,rfl⟩:=z;obtain⟨hb,rfl,X,ab,Z,D⟩:=O k s;have HS:=Px (rt a (uX v) (kK J p v) k s);have HD:Hid (∀W,Below wr.heap.size wr W->Calls prog 230 #[.pointer (some ⟨jb,0,none⟩),.agg #[.int .i64 (a[k].1:Nat),.int .i64 (a[k].2:Nat)],.int .i64 v] W fun e o=>e=.returned (.tuple #[])/\PP lo o jb (uX v ((a.take k).foldl (uX v) (kK J p v)) a[k]) P/\zd P.sv.ownBlock.toList W o):=fun W hW=>Jg W jb _ P a[k].1 a[k].2 v (c.out.below hW) D;clear O;generalize (a.take k).foldl (uX v) (kK J p v)=Jk at *;generalize a[k]=hd at *;go_wp2_with (first|(go_at_call 230;refine(HD.out _ (by exact(by go_grown))).mono ?_;rintro e w2 ⟨rfl,m,B⟩;have K:=Px m;clear m;have E:=(zd.of (M:=P.sv.ownBlock.toList) (show Below wr.heap.size wr _ from(by go_grown))).trans B))
     go_roundw
     case rel=>exact⟨k+1,by omega,by go_num,by rw[HS.out];exact K.out,n.trans (E.more (fun x V=>nO _ V))⟩
     case measure=>simp[intOf];omega
    ·obtain rfl:k=a.length:=by omega
     rw[vf] at c;go_wp2;go_end0
     exact⟨rfl,by rw[A.out];exact c.out,n⟩
 ·have A:Hid (ue J p v=J):=by unfold ue;rw[Hid,zb (by omega)]
  clear h;go_enter func228,ntmps228;go_wp2
  (try simp only[Exit.inBlock,Exit.then]);refine zK (results_none rfl _ _ _) rfl ?_
  exact⟨rfl,by rw[A.out];exact U.out,zd.refl _ _⟩
end
section
open Go.Proofs.Tryz
variable {lo:Nat}
theorem PP.bar{w:World}{r:Nat}{J:zy}{P:xp}(h:PP lo w r J P)(k:Nat)(m:k<J.bars.length):
  ∃c d b a p s,P.bv=.slice (some ⟨c,0,none⟩) J.bars.length d/\c<w.heap.size/\w.cell? ⟨c,k*4,none⟩=some (.int .i64 (J.bars[k].lit.pred:Nat))/\w.cell? ⟨c,k*4+1,none⟩=some (.slice b J.bars[k].lit.qg.length a)/\w.cell? ⟨c,k*4+2,none⟩=some (.int .i64 (J.bars[k].jd:Nat))/\w.cell? ⟨c,k*4+3,none⟩=some (.pointer (some ⟨p,0,none⟩))/\yh lo w (.slice b J.bars[k].lit.qg.length a) J.bars[k].lit.qg/\zY lo w p J.bars[k].rows s:=by
 obtain⟨c,d,u,_,g,f⟩:=yC h.bars (by omega);have j:k<P.bps.length:=by rw[h.blen];exact m
 obtain⟨n,i,q,o⟩:=rq (List.zipWith kS J.bars P.bps) k (by simp;omega);simp only[List.getElem_zipWith,kS] at n i q o;obtain⟨l,t⟩:=h.ji k m j;obtain⟨b,a,e⟩:=l.qx;rw[e] at i l;exact⟨c,d,b,a,_,_,u,g,f _ _ n,f _ _ i,f _ _ q,f _ _ o,l,t⟩
theorem Jj(l:zt)(vals:List Nat):zF l vals=[Pz l vals 0,Pz l vals 1,Pz l vals 2]:=rfl
theorem CK(w:World)(m:Nat)(J:zy)(P:xp)(l:Nat)(h:PP lo w m J P):
  Calls prog 223 #[.pointer (some ⟨m,0,none⟩),.int .i64 l] w fun e n=>e=.returned (.bool (uy J l))/\Below w.heap.size w n:=by
 have HJ:=Px h;obtain⟨C,H,_,_,_,_,Q,_⟩:=h.at;obtain⟨aG,a1,T⟩:=zs h.bars;rw[T] at Q;obtain⟨a,b,c,d,e,s⟩:=five h.jk.2.1;have a2:=h.few.2.1;have HV:Hid (∀W,PP lo W m J P->W.cell? ⟨m,16,none⟩=some (.int .i64 a)/\W.cell? ⟨m,17,none⟩=some (.int .i64 b)/\W.cell? ⟨m,18,none⟩=some (.int .i64 c)/\W.cell? ⟨m,19,none⟩=some (.int .i64 d)/\W.cell? ⟨m,20,none⟩=some (.int .i64 e)):=fun W t=>by
  have q0:=(t.vals 0 (by omega)).1;have q1:=(t.vals 1 (by omega)).1;have q2:=(t.vals 2 (by omega)).1;have q3:=(t.vals 3 (by omega)).1;have q4:=(t.vals 4 (by omega)).1;rw[s] at q0 q1 q2 q3 q4;exact⟨q0,q1,q2,q3,q4⟩
 have HE:Hid (uy J l=J.bars.any (fun x=>x.jd == l&&(uk x.rows [Pz x.lit [a,b,c,d,e] 0,Pz x.lit [a,b,c,d,e] 1,Pz x.lit [a,b,c,d,e] 2]).isSome)):=by
  rw[Hid];unfold uy;rw[s];rfl
 clear h;go_enter func223,ntmps223;go_wp2;clear Q C H;go_loopw [15] (fun ao wr=>∃k:Nat,k<=J.bars.length/\ao=.int .i64 k/\Hid ((J.bars.take k).any (fun x=>x.jd == l&&(uk x.rows [Pz x.lit [a,b,c,d,e] 0,Pz x.lit [a,b,c,d,e] 1,Pz x.lit [a,b,c,d,e] 2]).isSome)=false)/\Below w.heap.size w wr) (fun i _=>J.bars.length-(intOf i).toNat)
 case atStart=>exact⟨0,zx _,rfl,rfl,zo _ _⟩
 case round=>
  obtain⟨k,hk,rfl,HA,j⟩:=hrel;have R:=j.size;by_cases E:k<J.bars.length
  ·have u:=HJ.out.below j;obtain⟨C,H,_⟩:=u.at;obtain⟨av,ak,ax,aj,al⟩:=HV.out wr u;obtain⟨gb,aE,o,g,O,fp,p,aL,ar,ap,ai,ab,hT,V⟩:=u.bar k E;rw[T] at p;simp only[Value.slice.injEq] at p;obtain⟨rfl,_,rfl⟩:=p;have HS:Hid ((J.bars.take (k+1)).any (fun x=>x.jd == l&&(uk x.rows [Pz x.lit [a,b,c,d,e] 0,Pz x.lit [a,b,c,d,e] 1,Pz x.lit [a,b,c,d,e] 2]).isSome)=((J.bars.take k).any (fun x=>x.jd == l&&(uk x.rows [Pz x.lit [a,b,c,d,e] 0,Pz x.lit [a,b,c,d,e] 1,Pz x.lit [a,b,c,d,e] 2]).isSome)||(J.bars[k].jd == l&&(uk J.bars[k].rows [Pz J.bars[k].lit [a,b,c,d,e] 0,Pz J.bars[k].lit [a,b,c,d,e] 1,Pz J.bars[k].lit [a,b,c,d,e] 2]).isSome))):=Ql J.bars _ k E;have an:Hid ((J.bars[k].jd == l&&(uk J.bars[k].rows [Pz J.bars[k].lit [a,b,c,d,e] 0,Pz J.bars[k].lit [a,b,c,d,e] 1,Pz J.bars[k].lit [a,b,c,d,e] 2]).isSome)=true->uy J l=true):=fun q=>by rw[HE.out];exact BU J.bars _ k E q
   have ad:Hid (∀W,Below wr.heap.size wr W->Calls prog 161 #[.agg #[.int .i64 (J.bars[k].lit.pred:Nat),.slice o J.bars[k].lit.qg.length g],.agg #[.int .i64 a,.int .i64 b,.int .i64 c,.int .i64 d,.int .i64 e]] W fun r n=>r=.returned (.agg #[.int .i64 ((Pz J.bars[k].lit [a,b,c,d,e] 0:Nat):Int),.int .i64 ((Pz J.bars[k].lit [a,b,c,d,e] 1:Nat):Int),.int .i64 ((Pz J.bars[k].lit [a,b,c,d,e] 2:Nat):Int)])/\Below W.heap.size W n):=fun W t=>tX W _ J.bars[k].lit.pred J.bars[k].lit.qg a b c d e (hT.below t);have S:Hid (∀W x y z,Below wr.heap.size wr W->Calls prog 83 #[.pointer (some ⟨O,0,none⟩),.agg #[.int .i64 ((x:Nat):Int),.int .i64 ((y:Nat):Int),.int .i64 ((z:Nat):Int)]] W fun r n=>r=.returned (.tuple #[.int .i64 (((uk J.bars[k].rows [x,y,z]).getD 0:Nat):Int),.bool (uk J.bars[k].rows [x,y,z]).isSome])/\Below W.heap.size W n):=fun W x y z t=>KJ W O _ fp x y z (V.below t);clear hT V u;generalize J.bars[k]=f at *;generalize Pz f.lit [a,b,c,d,e] 0=Z at *;generalize Pz f.lit [a,b,c,d,e] 1=r1 at *;generalize Pz f.lit [a,b,c,d,e] 2=X at *;by_cases N:f.jd=l
   ·subst N;have U:=Px fun W t=>S.out W Z r1 X t;clear S;generalize (uk f.rows [Z,r1,X]).getD 0=mg at *;generalize (uk f.rows [Z,r1,X]).isSome=ms at *;have aq:((f.jd:Int) == (f.jd:Int))=true:=beq_self_eq_true _;have B:=Py.new wr #[.int .i64 f.lit.pred,.slice o f.lit.qg.length g,.int .i64 f.jd,.pointer (some ⟨O,0,none⟩)] 325;have v:Below wr.heap.size wr (wr.alloc (.cells #[.int .i64 f.lit.pred,.slice o f.lit.qg.length g,.int .i64 f.jd,.pointer (some ⟨O,0,none⟩)] 325)):=(zo _ _).alloc (zf _) _;have F:=HJ.out.below (P3 j v);obtain⟨aC,aA,_⟩:=F.at;obtain⟨aw,az,aa,af,a0⟩:=HV.out _ F;clear F;go_wp2;generalize wr.alloc (.cells #[.int .i64 f.lit.pred,.slice o f.lit.qg.length g,.int .i64 f.jd,.pointer (some ⟨O,0,none⟩)] 325)=Y at *;clear ar ap ai ab av ak ax aj al C H;obtain⟨aJ,aF,aH⟩:=B.boxed;have aI:=v.size;go_region_held3 (fun n=>n.cell? ⟨wr.heap.size,0,none⟩=some (.int .i64 f.lit.pred)/\n.cell? ⟨wr.heap.size,1,none⟩=some (.slice o f.lit.qg.length g)/\n.cell? ⟨m,16,none⟩=some (.int .i64 a)/\n.cell? ⟨m,17,none⟩=some (.int .i64 b)/\n.cell? ⟨m,18,none⟩=some (.int .i64 c)/\n.cell? ⟨m,19,none⟩=some (.int .i64 d)/\n.cell? ⟨m,20,none⟩=some (.int .i64 e)) (first|go_keep|(go_simp;done)) (first|(go_at_call 161;refine(ad.out _ (by exact(by go_grown))).mono ?_;rintro r w2 ⟨rfl,M⟩;have A:Below Y.heap.size Y w2:=(zP (by go_grown) M (zf _));have L:=B.below A;obtain⟨a7,a3,a9⟩:=L.boxed;have aD:=A.size;have K:=HJ.out.below (P3 (P3 j v) A);obtain⟨a4,a5,_⟩:=K.at;obtain⟨ac,ag,ae,au,ah⟩:=HV.out w2 K;try (have am:=(show Py ((Y.alloc (.cells #[.int .i64 0,.int .i64 0,.int .i64 0] 165)).drew) Y.heap.size #[.int .i64 0,.int .i64 0,.int .i64 0] 165 from Py.drew (Py.new _ _ _)).below M;obtain⟨aB,a6,a8⟩:=am.boxed)))
    all_goals
     have aK:=P3 v A;clear ac ag ae au ah aw az aa af a0;cases ms with
     |true=>
      have ay:=Px (an.out (by simp));go_wp2_with (first|(go_at_call 83;refine(U.out _ (by exact(by go_grown))).mono ?_;rintro r w3 ⟨rfl,G⟩;have D:Below wr.heap.size wr w3:=(zP (by go_grown) G (zf _))))
      go_ret;exact⟨by rw[ay.out];rfl,P3 j D⟩
     |false=>
      have I:Hid ((J.bars.take (k+1)).any (fun x=>x.jd == f.jd&&(uk x.rows [Pz x.lit [a,b,c,d,e] 0,Pz x.lit [a,b,c,d,e] 1,Pz x.lit [a,b,c,d,e] 2]).isSome)=false):=by rw[Hid,HS.out,HA.out];simp
      go_wp2_with (first|(go_at_call 83;refine(U.out _ (by exact(by go_grown))).mono ?_;rintro r w3 ⟨rfl,G⟩;have D:Below wr.heap.size wr w3:=(zP (by go_grown) G (zf _))))
      go_roundw
      case rel=>exact⟨k+1,by omega,by go_num,I,P3 j D⟩
      case measure=>simp[intOf];omega
   ·have I:Hid ((f.jd == l&&(uk f.rows [Z,r1,X]).isSome)=false):=by rw[Hid,beq_eq_false_iff_ne.2 N];rfl
    have aq:((f.jd:Int) == (l:Int))=false:=beq_eq_false_iff_ne.2 (by omega);go_wp2;go_roundw
    case rel=>exact⟨k+1,by omega,by go_num,by rw[HS.out,HA.out,I.out];rfl,j.alloc R _⟩
    case measure=>simp[intOf];omega
  ·have I:Hid (uy J l=false):=by
    rw[Hid,HE.out];have q:=HA.out;rw[xi (by omega)] at q;exact q
   go_wp2;go_ret;exact⟨by rw[I.out];rfl,j⟩
end
section
open Go.Proofs.Tryz
variable {lo:Nat}{J:zy}
def Q1(J:zy):Prop:=∀s∈J.qy,s.rows.qf<=1000
theorem PP.narrow{w:World}{b:Nat}{P:xp}(h:PP lo w b J P):Q1 J:=by
 intro s d;obtain⟨k,a,rfl⟩:=vG d;obtain⟨e,f,c,_⟩:=h.tries k a (by rw[h.slen];exact a);exact c.wide
theorem Lz(h:Q1 J)(b:Nat×Nat)(f:Nat):Q1 (vB J b f).1/\∀v,(vB J b f).2=some v->v<=1000/\f<=1000:=by
 unfold vB;split
 ·rename_i c;refine⟨h,fun v a=>?_⟩;have d:b.1<J.qy.length:=by simp[vi] at c;exact c.1
  have e:J.qy.getD b.1 yJ.zero=J.qy[b.1]:=by simp[List.getD_eq_getElem?_getD,d]
  simp only[e] at a;have i:=h _ (zv d);have j:=sm a;have g:f<J.qy[b.1].rows.qf:=by
   unfold yz at a;split at a
   ·rename_i q;exact q.2
   ·cases a
  omega
 ·exact⟨h,fun v a=>by cases a⟩
theorem CT:∀(n:Nat) (J:zy) (hs:List (Nat×Nat)) (a b c:Nat) (e:zy) (v:Nat),Q1 J->(b<hs.length∨a<=1000)->kH n J hs a b c=some (e,some v)->v<=1000
 |0,_,_,_,_,_,_,_,_,_,h=>by simp[kH] at h
 |n+1,J,hs,a,b,c,e,v,j,l,h=>by
  unfold kH at h;by_cases d:b<hs.length
  ·rw[zb d] at h;obtain⟨k,f⟩:=Lz j (hs.getD c (0,0)) a;generalize vB J (hs.getD c (0,0)) a=i at *;obtain⟨m,g⟩:=i;cases g with
   |none=>simp at h
   |some u=>
    obtain⟨p,o⟩:=f u rfl;refine CT n m hs _ _ _ e v k (ze ?_) h;split<;>omega
  ·rw[za d] at h;simp only[zr,yc] at h;obtain⟨_,rfl⟩:=h;omega
theorem FK{n:Nat}{a:zy}{p f v:Nat}(c:Q1 J)(h:dB n J p f=some (a,some v)):v<=1000:=by
 unfold dB at h;by_cases b:p≥5∨(J.je.getD p []).length=0
 ·rw[zb b] at h;simp at h
 ·rw[za b] at h;exact CT n J _ f 0 0 a v c (zg (by omega)) h
theorem Nw(w:World)(f:Nat)(J:zy)(P:xp)(n:Nat)(C:zy)(b:Bool)(h:PP lo w f J P)(R:qO n J J.ql=some (C,b)):
  Calls prog 224 #[.pointer (some ⟨f,0,none⟩)] w fun e z=>e=.returned (.bool b)/\PP lo z f C P/\zd (f::P.sv.ownBlock.toList) w z:=by
 have Z:=Px h;have HR:=Px R;obtain⟨I,K,_,_,_,_,_,_,F,_⟩:=h.at;clear h R;go_enter func224,ntmps224;go_wp2;clear F I K;go_loopg [3] n (fun k v3 wr=>∃(l:zy) (o:Int),v3=.int .i64 o/\Hid (qO k l o=some (C,b))/\Hid (PP lo wr f l P)/\zd (f::P.sv.ownBlock.toList) w wr)
 case atStart=>exact⟨J,J.ql,rfl,HR,Z,zd.refl _ _⟩
 case round=>
  obtain⟨l,o,rfl,Q,c,i⟩:=hrel;obtain⟨I,K,_,_,ac,_⟩:=c.out.at;have ab:=c.out.few.2.2;cases gk with
  |zero=>have q:=Q.out;simp[qO] at q
  |succ m=>
   have q:=Q.out;unfold qO at q;by_cases d:0<=o/\o<l.vars/\o<5
   ·rw[zb d] at q;obtain⟨d1,d2,d3⟩:=d;obtain⟨p,rfl⟩:∃p:Nat,o=p:=⟨o.toNat,by omega⟩;have H:p<5:=by omega
    simp only[Int.toNat_natCast] at q;obtain⟨_,aa,ad⟩:=c.out.vals p H;cases B:dB m l p (l.from.getD p 0) with
    |none=>rw[B] at q;cases q
    |some ar=>
     obtain⟨g,L⟩:=ar;rw[B] at q;have u:Hid (Calls prog 227 #[.pointer (some ⟨f,0,none⟩),.int .i64 p,.int .i64 ((l.from.getD p 0:Nat):Int)] wr fun e z=>e=.returned (.tuple #[.int .i64 ((L.getD 0:Nat):Int),.bool L.isSome])/\PP lo z f g P/\zd [f] wr z):=NU wr f l P p _ m g L c.out B;cases L with
     |none=>
      simp only[kZ,gd] at u;have j:Hid (qO m g (g.jg.getD p 0)=some (C,b)):=q;clear q B;generalize l.from.getD p 0=fr at *;go_wp2_with (first|(go_at_call 227;refine u.out.mono ?_;rintro e U ⟨rfl,a,r⟩;have x:=Px a;obtain⟨S,T,_⟩:=a.at;obtain⟨_,_,X⟩:=a.vals p H;clear a))
      go_roundg m
      case measure=>omega
      case rel=>exact⟨g,g.jg.getD p 0,rfl,j,x,i.trans (r.more (by simp))⟩
     |some v=>
      have hv:=FK c.out.narrow B;simp only[ux,jG] at u;have j:Hid (qO m (ue g p v) (if uy (ue g p v) (p+1)=true then(p:Int) else(p:Int)+1)=some (C,b)):=q;clear q B;have E:=Px fun W (N:PP lo W f g P)=>OB W f g P p v N (by omega);have G:Hid (∀W,PP lo W f (ue g p v) P->Calls prog 223 #[.pointer (some ⟨f,0,none⟩),.int .i64 ((p:Int)+1)] W fun e z=>e=.returned (.bool (uy (ue g p v) (p+1)))/\Below W.heap.size W z):=fun W N=>by
       have q:=CK W f _ P (p+1) N;rw[show((p+1:Nat):Int)=(p:Int)+1 from by omega] at q;exact q
      generalize l.from.getD p 0=fr at *;generalize uy (ue g p v) (p+1)=bb at *;generalize ue g p v=V at *;cases bb with
      |true=>
       rw[zb rfl] at j;go_wp2_with (first|(go_at_call 227;refine u.out.mono ?_;rintro e U ⟨rfl,a,r⟩;have x:=Px a;clear a)|(go_at_call 228;refine(E.out _ x.out).mono ?_;rintro e w3 ⟨rfl,t,A⟩;have y:=Px t;clear t)|(go_at_call 223;refine(G.out _ y.out).mono ?_;rintro e w4 ⟨rfl,s⟩))
       go_roundg m
       case measure=>omega
       case rel=>exact⟨V,p,rfl,j,y.out.below s,((i.trans (r.more (by simp))).trans A).newer (zd.of (M:=[]) s) (by simp)⟩
      |false=>
       rw[za (by simp)] at j;go_wp2_with (first|(go_at_call 227;refine u.out.mono ?_;rintro e U ⟨rfl,a,r⟩;have x:=Px a;clear a)|(go_at_call 228;refine(E.out _ x.out).mono ?_;rintro e w3 ⟨rfl,t,A⟩;have y:=Px t;clear t)|(go_at_call 223;refine(G.out _ y.out).mono ?_;rintro e w4 ⟨rfl,s⟩))
       go_roundg m
       case measure=>omega
       case rel=>exact⟨V,(p:Int)+1,rfl,j,y.out.below s,((i.trans (r.more (by simp))).trans A).newer (zd.of (M:=[]) s) (by simp)⟩
   ·rw[za d] at q;simp only[zr,yc] at q;obtain⟨Y,O⟩:=q;have D:Hid (C=l/\b=decide (o≥l.vars)):=⟨Y.symm,O.symm⟩;clear Y O;by_cases g1:0<=o
    ·by_cases g2:o<(l.vars:Int)
     ·have g3:¬o<5:=by omega
      go_wp2;go_ret;exact⟨by rw[D.out.2];first|(simp;done)|(simp;omega),by rw[D.out.1];exact c.out,i⟩
     ·go_wp2;go_ret;exact⟨by rw[D.out.2];first|(simp;done)|(simp;omega),by rw[D.out.1];exact c.out,i⟩
    ·go_wp2;go_ret;exact⟨by rw[D.out.2];first|(simp;done)|(simp;omega),by rw[D.out.1];exact c.out,i⟩
theorem PP.setDepth{w:World}{a:Nat}{P:xp}(h:PP lo w a J P)(m:Int):PP lo (w.setCell ⟨a,26,none⟩ (.int .i64 m)) a {J with ql:=m} P:=by
 obtain⟨d,j,c⟩:=h.jk;refine h.rebox (zd.set _ _ _ _) ?_ rfl rfl rfl rfl rfl h.jk;obtain⟨B,t,l,z,u,i⟩:=five h.hlen.1;obtain⟨y,o,A,v,k,b⟩:=five d;obtain⟨s,x,r,p,C,e⟩:=five j;obtain⟨D,E,n,q,F,f⟩:=five c;have g:=h.box.set 26 (.int .i64 m);simpa [um,i,b,e,f] using g
theorem Rg(w:World)(k:Nat)(J:zy)(P:xp)(n:Nat)(s:zy)(b:Bool)(h:PP lo w k J P)(f:dF n J=some (s,b)):
  Calls prog 215 #[.pointer (some ⟨k,0,none⟩)] w fun e q=>e=.returned (.bool b)/\PP lo q k s P/\zd (k::P.sv.ownBlock.toList) w q:=by
 unfold dF at f;cases o:qO n J J.ql with
 |none=>rw[o] at f;cases f
 |some v=>
  obtain⟨p,r⟩:=v;rw[o] at f;simp only[zr,yc] at f;obtain⟨x,rfl⟩:=f;have j:=Px (Nw w k J P n p r h o);have t:=Px x.symm;cases r with
  |false=>
   go_enter func215,ntmps215;go_wp2_with (first|(go_at_call 224;refine j.out.mono ?_;rintro e u ⟨rfl,a,c⟩;have d:=Px a;obtain⟨l,m,_,_,_,_,_,i,g,_⟩:=a.at;clear a))
   go_ret;exact⟨rfl,by rw[t.out];exact d.out.setDepth (-1),c.trans ((zd.set _ _ _ _).more (by simp))⟩
  |true=>
   go_enter func215,ntmps215;go_wp2_with (first|(go_at_call 224;refine j.out.mono ?_;rintro e u ⟨rfl,a,c⟩;have d:=Px a;obtain⟨l,m,_,_,_,_,_,i,g,_⟩:=a.at;clear a))
   go_ret;exact⟨rfl,by rw[t.out];exact(d.out.setDepth (-1)).setDepth p.last,(c.trans ((zd.set _ _ _ _).more (by simp))).trans ((zd.set _ _ _ _).more (by simp))⟩
end
section
open Go.Proofs.Tryz
variable {lo:Nat}
theorem Im(w:World)(a:Nat)(J:zy)(P:xp)(h:PP lo w a J P):
  Calls prog 217 #[.pointer (some ⟨a,0,none⟩)] w fun e f=>e=.returned (.int .i64 J.jf)/\f=w:=by
 obtain⟨c,d,_,_,_,_,_,_,_,b⟩:=h.at;clear h;go_enter func217,ntmps217;go_wp2;go_ret;exact⟨rfl,rfl⟩
theorem Ld(w:World)(s:Nat)(J:zy)(P:xp)(h:PP lo w s J P):
  Calls prog 216 #[.pointer (some ⟨s,0,none⟩)] w fun r z=>r=.returned (.agg #[.int .i64 ((Pz J.head J.ja 0:Nat):Int),.int .i64 ((Pz J.head J.ja 1:Nat):Int),.int .i64 ((Pz J.head J.ja 2:Nat):Int)])/\Below w.heap.size w z:=by
 obtain⟨K,L,E,l,_⟩:=h.at;obtain⟨a,b,c,d,e,f⟩:=five h.jk.2.1;have H:=(h.vals 0 (by omega)).1;have D:=(h.vals 1 (by omega)).1;have I:=(h.vals 2 (by omega)).1;have u:=(h.vals 3 (by omega)).1;have B:=(h.vals 4 (by omega)).1;rw[f] at H D I u B ⊢;obtain⟨x,q,j⟩:=h.head.qx;have o:=h.head;rw[j] at l o;have k:=Px fun W G=>tX W _ J.head.pred J.head.qg a b c d e (o.below G);generalize Pz J.head [a,b,c,d,e] 0=t at *;generalize Pz J.head [a,b,c,d,e] 1=M at *;generalize Pz J.head [a,b,c,d,e] 2=A at *;go_enter func216,ntmps216;go_wp2;go_region_with (go_at_call 161;refine(k.out _ (by exact(by go_grown))).mono ?_;rintro r F ⟨rfl,g⟩;have m:Below w.heap.size w F:=(zP (by go_grown) g (zf _));have n:=(Py.drew (Py.new w #[.int .i64 0,.int .i64 0,.int .i64 0] 165)).below g;obtain⟨i,y,C⟩:=n.boxed)
 all_goals
  go_wp2;exact zK (v:=.agg #[.int .i64 t,.int .i64 M,.int .i64 A]) (by simp[results,results216,go_sem,i]) rfl ⟨rfl,((m.setCell (p:=⟨w.heap.size,0,none⟩) (by simp) _).setCell (p:=⟨w.heap.size,1,none⟩) (by simp) _).setCell (p:=⟨w.heap.size,2,none⟩) (by simp) _⟩
theorem Pi:(prog.info? 327).map (fun i=>(i.zero,i.size,i.bytes))=some (some (.agg #[.int .i64 0,.int .i64 0]),2,16):=by kernel_rfl
def gy(b:Nat)(x:zt×Nat):Option (Nat×Nat):=(yN x.1 b).map fun a=>(x.2,a)
theorem Bv(r:zq)(a:Nat):yW r a=r.qc.zipIdx.filterMap (gy a):=rfl
theorem M9(a:List zt)(b k:Nat)(c:k<a.length):(a.take (k+1)).zipIdx.filterMap (gy b)=(a.take k).zipIdx.filterMap (gy b)++((yN a[k] b).map fun d=>(k,d)).toList:=by
 rw[yP c,List.zipIdx_append,rF];congr 1;simp only[List.zipIdx_singleton,vU,vF,pW,List.filterMap_nil,gy];rw[dH (by omega)];cases yN a[k] b<;>rfl
theorem Ky(hs:List (Nat×Nat))(x:Nat×Nat):jV (hs++[x])=jV hs++[.int .i64 (x.1:Nat),.int .i64 (x.2:Nat)]:=by simp[jV]
theorem EY(w:World)(tv Q L:Value)(r:zq)(a:Nat)(h:uU lo w tv Q L r)(hp:a<=1000000):
  Calls prog 221 #[kz r tv Q L,.int .i64 a] w fun e s=>∃I,e=.returned I/\s.ownsRow w.heap.size 327 2 I (yW r a).length (jV (yW r a))/\Below w.heap.size w s:=by
 obtain⟨i0,Y,y,C,G⟩:=info_parts Pi;obtain⟨V,J,rfl⟩:=h.qc.qx;have ac:=h.qc.len;have X:=h.qc;have HE:Hid (yW r a=r.qc.zipIdx.filterMap (gy a)):=rfl;unfold kz;clear h;generalize r.qc=c at *;go_enter func221,ntmps221;go_wp2;go_loopw [5,13] (fun U F wr=>∃k:Nat,k<=c.length/\F=.int .i64 k/\wr.ownsRow w.heap.size 327 2 U ((c.take k).zipIdx.filterMap (gy a)).length (jV ((c.take k).zipIdx.filterMap (gy a)))/\Below w.heap.size w wr) (fun _ i _=>c.length-(intOf i).toNat)
 case atStart=>exact⟨0,zx _,rfl,yI _ _ _ _,(by go_grown)⟩
 case round=>
  obtain⟨k,hk,rfl,b,d⟩:=hrel;have H:=d.size;have K:((c.take k).zipIdx.filterMap (gy a)).length<=k:=by
   have:=p4 (gy a) (c.take k).zipIdx;simp at this;omega
  by_cases p:k<c.length
  ·obtain⟨g,D,q,B,P,N,R,M⟩:=X.cell k p;subst B;have ab:=zm d P N;have Z:=zm d P R;have T:g<wr.heap.size:=by omega
   have u:=Px (M9 c a k p);have m:Hid (∀W,Below w.heap.size w W->Calls prog 187 #[.agg #[.int .i64 (c[k].pred:Nat),.slice D c[k].qg.length q],.int .i64 a] W fun e s=>e=.returned (.tuple #[.int .i64 (((yN c[k] a).getD 0:Nat):Int),.bool (yN c[k] a).isSome])/\Below W.heap.size W s):=fun W hW=>D8 W _ c[k].pred a c[k].qg (M.below hW) hp;clear N R M;generalize c[k]=l at *;generalize (c.take k).zipIdx.filterMap (gy a)=v at *;generalize yN l a=ol at *;cases ol with
   |none=>
    simp only[Option.map_none,Option.toList_none,qE] at u;simp only[kZ,gd] at m;go_wp2_with (first|(go_at_call 187;refine(m.out _ (by exact(by go_grown))).mono ?_;rintro e t ⟨rfl,n⟩;have f:Below wr.heap.size wr t:=(zP (by go_grown) n (zf _))))
    go_roundw
    case rel=>exact⟨k+1,by omega,by go_num,by rw[u.out];exact zC b f,P3 d f⟩
    case measure=>simp[intOf];omega
   |some lv=>
    simp only[jj,Option.toList_some] at u;simp only[ux,jG] at m;obtain⟨E,o,rfl⟩:=zs b;go_wp2_with (first|(go_at_call 187;refine(m.out _ (by exact(by go_grown))).mono ?_;rintro e t ⟨rfl,n⟩;have f:Below wr.heap.size wr t:=(zP (by go_grown) n (zf _));have j:=zC b f;have aa:=f.size)|(at_builtin;refine dO t _ [.int .i64 k,.int .i64 lv] _ rfl (.tmp 25) (.tmp 29) 307 rfl w.heap.size 327 i0 _ 2 16 underlying307 Y y C G rfl (by decide) (.slice E v.length o) v.length (jV v) rfl j (zo _ _) _ _ rfl (by simp) rfl (by simp[Value.oneCell']) (by omega) (by omega) (by omega) ?_;intro v' w3 A z O))
    go_roundw
    case rel=>exact⟨k+1,by omega,by go_num,by rw[u.out,Ky,yv];exact A,(P3 d f).trans (z.below (fun x S=>xb j (yw S)) (by omega))⟩
    case measure=>simp[intOf];omega
  ·rw[xi (by omega)] at b;go_wp2;go_ret;exact⟨_,rfl,by rw[HE.out];exact b,d⟩
end
section
variable {lo:Nat}{w w':World}{base tb b0:Nat}{v:Value}{xs:List Value}{c:Array Value}{T:zi}{fp:List Nat}
abbrev zn:=Nat×Nat×Nat
def Qp(t:TypeId):Prop:=t≠229/\t≠273/\t≠3
instance (t:TypeId):Decidable (Qp t):=by unfold Qp;infer_instance
def FY(w:World)(b:Nat):Prop:=∃c t,Py w b c t/\¬Qp t
theorem sP{t:TypeId}(h:t=229∨t=273∨t=3):¬Qp t:=by
 rintro⟨a,b,c⟩;rcases h with h|h|h
 ·exact a h
 ·exact b h
 ·exact c h
theorem qC{e:TypeId}{a n:Nat}(h:w.ownsRow base e a v n xs){b:Nat}(f:v.ownBlock=some b):∃c,Py w b c e:=by
 obtain⟨_,⟨d,_⟩|⟨g,k,i,d,_,j,_⟩⟩:=h
 ·subst d;cases f
 ·subst d;simp only[Value.ownBlock,zr] at f;subst f;exact⟨_,j⟩
theorem Py.type{b:Nat}{e:Array Value}{t d:TypeId}(h:Py w b c t)(a:Py w b e d):t=d:=by
 unfold Py at h a;rw[h] at a;simp at a;exact a.2
theorem zY.typed(h:zY lo w tb T fp):∀b∈fp,FY w b:=by
 obtain⟨j,k,d,rfl⟩:=h;intro b a;simp only[Qv,zu,zX] at a;rcases a with a|a|a
 ·subst a;exact⟨_,_,d.box,sP (zg rfl)⟩
 ·obtain⟨c,f⟩:=qC d.qi (yw a);exact⟨_,_,f,sP (ze (zg rfl))⟩
 ·obtain⟨i,g,e|e⟩:=ef a
  ·obtain⟨c,f⟩:=qC (d.leap i (by rw[←d.len];exact g) g) (b:=b) (by rw[e];rfl);exact⟨_,_,f,sP (ze (ze rfl))⟩
  ·obtain⟨c,f⟩:=qC (d.down i (by rw[←d.len];exact g) g) (b:=b) (by rw[e];rfl);exact⟨_,_,f,sP (ze (ze rfl))⟩
def yO(lo:Nat)(w:World)(own:Nat->zn)(ρ:zn)(tb:Nat)(T:zi):Prop:=∃fp,zY lo w tb T fp/\∀b∈fp,own b=ρ
structure P6 (lo:Nat) (ok:TypeId->zn->Prop) (w:World) (own:Nat->zn) (w':World) (own':Nat->zn):Prop where
 old:∀b,b<w.heap.size->own' b=own b
 save:∃M,zd M w w'/\∀b∈M,lo<=b/\b<w.heap.size/\∃c t,Py w b c t/\ok t (own b)
def onT(rs:zn->Prop):TypeId->zn->Prop:=fun t ρ=>¬Qp t/\rs ρ
def kX(l:List TypeId):TypeId->zn->Prop:=fun t _=>t∈l
def orK(a b:TypeId->zn->Prop):TypeId->zn->Prop:=fun t ρ=>a t ρ∨b t ρ
theorem P6.of{ok:TypeId->zn->Prop}{w w':World}(own:Nat->zn)(a:Below w.heap.size w w'):P6 lo ok w own w' own:=⟨fun _ _=>rfl,[],zd.of a,by simp⟩
theorem P6.refl{ok:TypeId->zn->Prop}(w:World)(own:Nat->zn):P6 lo ok w own w own:=P6.of own (zo _ _)
theorem P6.more{ok ok':TypeId->zn->Prop}{own a:Nat->zn}(h:P6 lo ok w own w' a)(hs:∀t ρ,ok t ρ->ok' t ρ):P6 lo ok' w own w' a:=by
 obtain⟨i,M,d,l⟩:=h;refine⟨i,M,d,fun b j=>?_⟩;obtain⟨k,f,c,t,g,e⟩:=l b j;exact⟨k,f,c,t,g,hs _ _ e⟩
theorem P6.size{ok:TypeId->zn->Prop}{w w':World}{own a:Nat->zn}(h:P6 lo ok w own w' a):w.heap.size<=w'.heap.size:=by
 obtain⟨_,M,b,_⟩:=h;exact b.size
theorem P6.trans{ok:TypeId->zn->Prop}{a b c:World}{q p r:Nat->zn}(h:P6 lo ok a q b p)(k:P6 lo ok b p c r):P6 lo ok a q c r:=by
 obtain⟨n,M,f,o⟩:=h;obtain⟨y,N,g,s⟩:=k;have u:=f.size;refine⟨fun x d=>(y x (by omega)).trans (n x d),M++N.filter (·<a.heap.size),⟨g.os.trans f.os,g.tape.trans f.tape,g.output.trans f.output,zT u g.size,fun x d j=>?_⟩,fun x d=>?_⟩
 ·simp only[zX,xX,not_or,not_and,decide_eq_true_eq] at j;exact(g.block x (by omega) fun i=>j.2 i d).trans (f.block x d j.1)
 ·simp only[zX,xX,decide_eq_true_eq] at d;rcases d with d|⟨d,e⟩
  ·exact o x d
  ·obtain⟨z,A,c,t,m,l⟩:=s x d;rw[n x e] at l;by_cases i:x∈M
   ·exact o x i
   ·exact⟨z,e,c,t,by unfold Py at m ⊢;rw[←f.block x e i];exact m,l⟩
theorem P6.ofSave{ok:TypeId->zn->Prop}(own:Nat->zn){M:List Nat}(hs:zd M w w')(a:∀b∈M,lo<=b/\b<w.heap.size/\∃c t,Py w b c t/\ok t (own b)):P6 lo ok w own w' own:=⟨fun _ _=>rfl,M,hs,a⟩
theorem P6.set{ok:TypeId->zn->Prop}{w:World}(own:Nat->zn){b:Nat}{c:Array Value}{t:TypeId}(d:Py w b c t)(f:lo<=b)(e:ok t (own b))(o:Nat)(u:Value):P6 lo ok w own (w.setCell ⟨b,o,none⟩ u) own:=
 P6.ofSave own (zd.set _ _ _ _) (fun x a=>by simp at a;subst a;exact⟨f,d.lt,_,_,d,e⟩)
theorem Py.mod{ok:TypeId->zn->Prop}{own a:Nat->zn}{b:Nat}{t:TypeId}(h:Py w b c t)(p:P6 lo ok w own w' a)(d:¬ok t (own b)):Py w' b c t:=by
 obtain⟨_,M,e,i⟩:=p;refine h.save e fun g=>?_;obtain⟨_,_,k,j,q,f⟩:=i b g;rw[h.type q] at d;exact d f
theorem pE{ok:TypeId->zn->Prop}{own d:Nat->zn}{e:TypeId}{a n:Nat}(h:w.ownsRow base e a v n xs)(p:P6 lo ok w own w' d)(l:∀b,v.ownBlock=some b->¬ok e (own b)):w'.ownsRow base e a v n xs:=by
 obtain⟨_,M,g,k⟩:=p;refine yH h g fun b f j=>?_;obtain⟨c,m⟩:=qC h f;obtain⟨_,_,r,o,q,i⟩:=k b j;have:=l b f;rw[m.type q] at this;exact this i
theorem ve{ok:TypeId->zn->Prop}{own b:Nat->zn}{e:TypeId}{a n:Nat}(h:w.ownsRow base e a v n xs)(p:P6 lo ok w own w' b)(d:∀ρ,¬ok e ρ):w'.ownsRow base e a v n xs:=pE h p fun _ _=>d _
theorem zY.mod{ok:TypeId->zn->Prop}{own a:Nat->zn}(h:zY b0 w tb T fp)(p:P6 lo ok w own w' a)(j:∀b∈fp,∀t,¬Qp t->¬ok t (own b)):zY b0 w' tb T fp:=by
 obtain⟨_,M,g,l⟩:=p;refine h.save g fun b e k=>?_;obtain⟨_,_,c,t,q,f⟩:=l b k;obtain⟨n,m,i,d⟩:=h.typed b e;rw[i.type q] at d;exact j b e t d f
theorem yO.mod{ok:TypeId->zn->Prop}{w w':World}{own a:Nat->zn}{ρ:zn}{tb:Nat}{T:zi}(h:yO lo w own ρ tb T)(p:P6 lo ok w own w' a)(g:∀t,¬Qp t->¬ok t ρ):yO lo w' a ρ tb T:=by
 obtain⟨fp,f,e⟩:=h;exact⟨fp,f.mod p fun b d t i=>by rw[e b d];exact g t i,fun b d=>(p.old b (f.lt b d).2).trans (e b d)⟩
theorem qZ{rs:zn->Prop}{t:TypeId}(h:Qp t):∀ρ,¬onT rs t ρ:=fun _ q=>q.1 h
theorem yO.onT{rs:zn->Prop}{w w':World}{own a:Nat->zn}{ρ:zn}{tb:Nat}{T:zi}(h:yO lo w own ρ tb T)(p:P6 lo (onT rs) w own w' a)(b:¬rs ρ):yO lo w' a ρ tb T:=h.mod p fun _ _ q=>b q.2
theorem yh.mod{ok:TypeId->zn->Prop}{own a:Nat->zn}{ts:List ya}(h:yh b0 w v ts)(p:P6 lo ok w own w' a)(b:∀ρ,¬ok 284 ρ):yh b0 w' v ts:=⟨ve h.own p b,h.len,h.num⟩
theorem xY.mod{b0:Nat}{ok:TypeId->zn->Prop}{w w':World}{own d:Nat->zn}{v:Value}{g:List zt}(h:xY b0 w v g)(p:P6 lo ok w own w' d)(n:∀ρ,¬ok 284 ρ)(f:∀ρ,¬ok 204 ρ):xY b0 w' v g:=by
 obtain⟨l,j,i,m,e⟩:=h;exact⟨l,ve j p f,i,m,fun k a b=>⟨(e k a b).1,(e k a b).2.1.mod p n,(e k a b).2.2⟩⟩
theorem uU.mod{b0:Nat}{ok:TypeId->zn->Prop}{w w':World}{own a:Nat->zn}{tv f e:Value}{r:zq}(h:uU b0 w tv f e r)(p:P6 lo ok w own w' a)(d:∀ρ,¬ok 284 ρ)(b:∀ρ,¬ok 204 ρ):uU b0 w' tv f e r:=⟨h.head.mod p d,h.qc.mod p d b,h.qp.mod p d b,h.small⟩
theorem PF.mod{ok:TypeId->zn->Prop}{own b:Nat->zn}{a:List zk}(h:PF b0 w v a)(p:P6 lo ok w own w' b)(d:∀ρ,¬ok 165 ρ):PF b0 w' v a:=⟨ve h.1 p d,h.2⟩
def ext(own:Nat->zn)(n:Nat)(ρ:zn):Nat->zn:=fun b=>if b<n then own b else ρ
theorem gR(own:Nat->zn)(n:Nat)(ρ:zn)(b:Nat)(h:b<n):ext own n ρ b=own b:=by simp[ext,h]
theorem PQ.mod{own:Nat->zn}{ρ:zn}{f:zi}{d:List Nat}(h:zY lo w tb T fp)(e:∀b∈fp,own b=ρ)(k:PQ lo w w' tb f fp d):
  yO lo w' (ext own w.heap.size ρ) ρ tb f/\P6 lo (onT (·=ρ)) w own w' (ext own w.heap.size ρ):=by
 refine⟨⟨d,k.trie,fun b a=>?_⟩,fun b a=>by simp[ext,a],fp,k.save,fun b a=>⟨(h.lt b a).1,(h.lt b a).2,?_⟩⟩
 ·unfold ext;split
  ·rcases k.qo b a with q|q
   ·exact e b q
   ·omega
  ·rfl
 ·obtain⟨c,t,i,g⟩:=h.typed b a;exact⟨c,t,i,g,e b a⟩
theorem P6.extNew{ok:TypeId->zn->Prop}(own:Nat->zn)(ρ:zn)(a:Below w.heap.size w w'):P6 lo ok w own w' (ext own w.heap.size ρ):=⟨fun b h=>by simp[ext,h],[],zd.of a,by simp⟩
theorem zY.low{a b:Nat}{w:World}{tb:Nat}{T:zi}{fp:List Nat}(h:zY b w tb T fp)(e:a<=b):zY a w tb T fp:=by
 obtain⟨g,f,d,rfl⟩:=h;exact⟨g,f,⟨zT e d.low,d.box,yq d.qi e,d.len,fun i a b=>yq (d.leap i a b) e,fun i a b=>yq (d.down i a b) e,d.apart,d.wide,d.many,d.deep,d.few⟩,rfl⟩
theorem zY.new(own:Nat->zn)(ρ:zn)(h:zY w.heap.size w' tb T fp)(a:lo<=w.heap.size):yO lo w' (ext own w.heap.size ρ) ρ tb T:=
 ⟨fp,h.low a,fun b d=>by have:=(h.lt b d).1;simp[ext,Nat.not_lt.2 this]⟩
theorem yO.below{own:Nat->zn}{ρ:zn}(h:yO lo w own ρ tb T)(a:Below w.heap.size w w'):yO lo w' own ρ tb T:=h.mod (P6.of (ok:=fun _ _=>False) own a) (fun _ _=>id)
theorem yO.set{w:World}{own:Nat->zn}{ρ:zn}{tb:Nat}{T:zi}(h:yO lo w own ρ tb T){b:Nat}{c:Array Value}{t:TypeId}(i:Py w b c t)(j:Qp t)(o:Nat)(u:Value):yO lo (w.setCell ⟨b,o,none⟩ u) own ρ tb T:=by
 obtain⟨fp,e,f⟩:=h;refine⟨fp,e.save (zd.set _ _ _ _) fun x g d=>?_,f⟩;simp at d;subst d;obtain⟨l,k,q,a⟩:=e.typed x g;rw[q.type i] at a;exact a j
end
section
variable {lo:Nat}{w w':World}{v:Value}{xs:List Value}{b:Nat}{c:Array Value}{M:List Nat}
def PN(w:World)(T:TypeId)(M:List Nat):Prop:=∀b∈M,∃c,Py w b c T
theorem PN.own{d:Nat}{e:TypeId}{a n:Nat}(h:w.ownsRow d e a v n xs):PN w e v.ownBlock.toList:=fun _ f=>qC h (yw f)
theorem PN.box{T:TypeId}(h:Py w b c T):PN w T [b]:=fun x a=>by simp at a;subst a;exact⟨c,h⟩
theorem yB{d:Nat}{e T:TypeId}{a n:Nat}(h:w.ownsRow d e a v n xs)(hs:zd M w w')(k:PN w T M)(g:e≠T):w'.ownsRow d e a v n xs:=
 yH h hs fun b j i=>by
  obtain⟨c,l⟩:=k b i;obtain⟨m,f⟩:=qC h j;exact g (f.type l)
theorem Py.saveT{e T:TypeId}(h:Py w b c e)(hs:zd M w w')(g:PN w T M)(d:e≠T):Py w' b c e:=
 h.save hs fun f=>by
  obtain⟨i,a⟩:=g b f;exact d (h.type a)
theorem yh.saveT{a:Nat}{ts:List ya}{T:TypeId}(h:yh a w v ts)(hs:zd M w w')(d:PN w T M)(e:284≠T):yh a w' v ts:=⟨yB h.own hs d e,h.len,h.num⟩
theorem xY.saveT{e:Nat}{w w':World}{v:Value}{f:List zt}{T:TypeId}{M:List Nat}(h:xY e w v f)(hs:zd M w w')(m:PN w T M)(j:284≠T)(i:∀b,v.ownBlock=some b->b∉M):xY e w' v f:=by
 obtain⟨n,l,g,o,d⟩:=h;exact⟨n,yH l hs i,g,o,fun k a b=>⟨(d k a b).1,(d k a b).2.1.saveT hs m j,(d k a b).2.2⟩⟩
theorem xY.saveTT{g:Nat}{i:List zt}{T:TypeId}(h:xY g w v i)(hs:zd M w w')(f:PN w T M)(l:284≠T)(e:204≠T):xY g w' v i:=by
 obtain⟨n,m,j,o,d⟩:=h;exact⟨n,yB m hs f e,j,o,fun k a b=>⟨(d k a b).1,(d k a b).2.1.saveT hs f l,(d k a b).2.2⟩⟩
theorem uU.saveT{i:Nat}{w w':World}{tv g f:Value}{r:zq}{T:TypeId}{M:List Nat}(h:uU i w tv g f r)(hs:zd M w w')(e:PN w T M)(d:284≠T)(a:204≠T):uU i w' tv g f r:=⟨h.head.saveT hs e d,h.qc.saveTT hs e d a,h.qp.saveTT hs e d a,h.small⟩
theorem yh.low{a:Nat}{ts:List ya}(h:yh b w v ts)(d:a<=b):yh a w v ts:=⟨yq h.own d,h.len,h.num⟩
theorem xY.low{a b:Nat}{w:World}{v:Value}{f:List zt}(h:xY b w v f)(e:a<=b):xY a w v f:=by
 obtain⟨j,i,g,l,d⟩:=h;exact⟨j,yq i e,g,l,fun k a b=>⟨(d k a b).1,(d k a b).2.1.low e,(d k a b).2.2⟩⟩
theorem uU.low{a b:Nat}{w:World}{tv f e:Value}{r:zq}(h:uU b w tv f e r)(d:a<=b):uU a w tv f e r:=⟨h.head.low d,h.qc.low d,h.qp.low d,h.small⟩
theorem Py.up{T:TypeId}(h:Py w b c T)(o:Obj):Py (w.alloc o) b c T:=h.below ((zo _ _).alloc (zf _) o)
theorem Py.at'{b':Nat}{T:TypeId}(h:Py w b c T)(e:b=b'):Py w b' c T:=e ▸ h
theorem Py.carry{W a:World}{T:TypeId}{G:Prop}(h:Py W b c T)(d:Below W.heap.size W a)(k:Py a b c T->G):G:=k (h.below d)
end
section
open Go.Proofs.Tryz
variable {lo:Nat}
theorem yO.saveT{w d:World}{own:Nat->zn}{ρ:zn}{tb:Nat}{T:zi}{t:TypeId}{M:List Nat}(h:yO lo w own ρ tb T)(hs:zd M w d)(j:PN w t M)(k:Qp t):yO lo d own ρ tb T:=by
 obtain⟨g,b,e⟩:=h;refine⟨g,b.save hs fun x f i=>?_,e⟩;obtain⟨c,l⟩:=j x i;obtain⟨n,m,q,a⟩:=b.typed x f;rw[q.type l] at a;exact a k
theorem tT(w:World)(own:Nat->zn)(ρ:zn)(tb:Nat)(T:zi)(x y z m:Nat)(h:yO lo w own ρ tb T)(a:okT T=true):
  Calls prog 163 #[.pointer (some ⟨tb,0,none⟩),.agg #[.int .i64 x,.int .i64 y,.int .i64 z],.int .i64 m] w fun e b=>e=.returned (.bool (addP T [x,y,z] m).2)/\yO lo b (ext own w.heap.size ρ) ρ tb (addP T [x,y,z] m).1/\P6 lo (onT (·=ρ)) w own b (ext own w.heap.size ρ):=by
 obtain⟨f,c,d⟩:=h;simp only[okT,vq,decide_eq_true_eq] at a;refine(Gh w tb T f x y z m c a.1 a.2).mono ?_;rintro e b ⟨rfl,i,g⟩;exact⟨rfl,g.mod c d⟩
theorem Ct(w:World)(own:Nat->zn)(ρ:zn)(tb:Nat)(T:zi)(n:Nat)(rs:List zk)(h:yO lo w own ρ tb T)(a:rowsG n T=some rs):
  Calls prog 78 #[.pointer (some ⟨tb,0,none⟩)] w fun e d=>∃v,e=.returned v/\PF w.heap.size d v rs/\Below w.heap.size w d:=by
 obtain⟨f,g,_⟩:=h;unfold rowsG at a;cases b:nf n T with
 |none=>rw[b] at a;cases a
 |some c=>
  rw[b] at a;simp only at a;split at a
  ·simp only[zr] at a;subst a;exact MS w tb T f g n c b (by assumption)
  ·cases a
theorem PF.cell{F:Nat}{w:World}{v:Value}{rs:List zk}(h:PF F w v rs)(k:Nat)(d:k<rs.length):∃g f x y z,v=.slice (some ⟨g,0,none⟩) rs.length f/\g<w.heap.size/\rs[k]=[x,y,z]/\w.cell? ⟨g,k*3,none⟩=some (.int .i64 (x:Nat))/\w.cell? ⟨g,k*3+1,none⟩=some (.int .i64 (y:Nat))/\w.cell? ⟨g,k*3+2,none⟩=some (.int .i64 (z:Nat)):=by
 obtain⟨B,n⟩:=h;obtain⟨g,f,A,_,s,m⟩:=yC B (by omega);obtain⟨x,y,z,e⟩:∃x y z,rs[k]=[x,y,z]:=by
  have:=n rs[k] (zv d);match p:rs[k],this with
  |[x,y,z],_=>exact⟨x,y,z,rfl⟩
 have j:∀(rs:List zk) (k:Nat) (d:k<rs.length),(∀r∈rs,r.length=3)->rs[k]=[x,y,z]->(jq rs)[k*3]?=some (.int .i64 x)/\(jq rs)[k*3+1]?=some (.int .i64 y)/\(jq rs)[k*3+2]?=some (.int .i64 z):=by
  intro rs;induction rs with
  |nil=>intro k d;simp at d
  |cons r l E=>
   intro k d o i;match k,d,i with
   |0,_,i=>simp only[gm] at i;subst i;simp[jq,Qb]
   |k+1,d,i=>
    have D:=o r (by simp);match G:r,D with
    |[a,b,c],_=>
     have:=E k (by simpa using d) (fun q p=>o q (by simp[p])) (by simpa using i);simp only[jq,uo] at this ⊢;rw[show(k+1)*3=k*3+1+1+1 from by omega,show k*3+1+1+1+1=k*3+1+1+1+1 from rfl,show k*3+1+1+1+2=k*3+2+1+1+1 from by omega];simpa using this
 obtain⟨t,C,u⟩:=j rs k d n e;exact⟨g,f,x,y,z,A,s,e,m _ _ t,m _ _ C,m _ _ u⟩
structure jo where
 tv:Value
 bb:Nat
 fb:Nat
 ab:Nat
def pt(b:Nat):Value:=.pointer (some ⟨b,0,none⟩)
def kP(wd:Nat)(V:y6)(P:jo):List Value:=[.int .i64 V.lit.pred,P.tv,.int .i64 wd,pt P.bb,pt P.fb,pt P.ab]
structure vn (lo:Nat) (w:World) (own:Nat->zn) (k i:Nat) (V:y6) (P:jo):Prop where
 qg:yh lo w P.tv V.lit.qg
 before:yO lo w own (k+1,i,0) P.bb V.before
 qo:yO lo w own (k+1,i,1) P.fb V.qo
 all:yO lo w own (k+1,i,2) P.ab V.all
theorem vn.mod{ok:TypeId->zn->Prop}{w c:World}{own a:Nat->zn}{k i:Nat}{V:y6}{P:jo}(h:vn lo w own k i V P)(p:P6 lo ok w own c a)(b:∀j t,¬Qp t->¬ok t (k+1,i,j))(d:∀ρ,¬ok 284 ρ):vn lo c a k i V P:=
 ⟨h.qg.mod p d,h.before.mod p (b 0),h.qo.mod p (b 1),h.all.mod p (b 2)⟩
theorem vn.below{w a:World}{own:Nat->zn}{k i:Nat}{V:y6}{P:jo}(h:vn lo w own k i V P)(b:Below w.heap.size w a):vn lo a own k i V P:=h.mod (P6.of (ok:=fun _ _=>False) own b) (fun _ _ _=>id) (fun _=>id)
theorem vn.saveT{w c:World}{own:Nat->zn}{k i:Nat}{V:y6}{P:jo}{t:TypeId}{M:List Nat}(h:vn lo w own k i V P)(hs:zd M w c)(a:PN w t M)(b:Qp t)(d:284≠t):vn lo c own k i V P:=⟨h.qg.saveT hs a d,h.before.saveT hs a b,h.qo.saveT hs a b,h.all.saveT hs a b⟩
def Nj(lo:Nat)(w:World)(own:Nat->zn)(k i wd:Nat)(tv:Value)(l:zt)(e:Ending)(c:World):Prop:=∃P a,P.tv=tv/\e=.returned (.agg (kP wd (kA wd l) P).toArray)/\vn lo c a k i (kA wd l) P/\(∀b,b<w.heap.size->a b=own b)/\Below w.heap.size w c
theorem Ap(l:zt):yM l<=5:=by
 unfold yM;have:=rh (p:=zH l) (l:=List.range 5);simpa using this
theorem Ih(w:World)(own:Nat->zn)(k i:Nat)(l:zt)(tv:Value)(wd:Nat)(h:yh lo w tv l.qg)(hl:lo<=w.heap.size)(aE:wd<=1000):
  Calls prog 204 #[.agg #[.int .i64 l.pred,tv],.int .i64 wd] w fun e w'=>Nj lo w own k i wd tv l e w':=by
 obtain⟨y,a,rfl⟩:=h.qx;have HD:Hid (∀W,Below w.heap.size w W->Calls prog 212 #[.agg #[.int .i64 l.pred,.slice y l.qg.length a]] W fun e w'=>e=.returned (.int .i64 (yM l:Nat))/\Below W.heap.size W w'):=fun W hW=>o9 W _ l.pred l.qg (h.below hW);have HT:=Px h;have Z:Hid (kA wd l=⟨l,yR wd (yM l),yR wd (yM l),yR wd (yM l)⟩):=rfl;have a3:=Ap l;have HN:=Px fun W=>iu W wd (yM l) aE (by omega);have HL:=Px hl;clear h hl a3;have S:=Py.new ((w.alloc (.cells #[.int .i64 l.pred,.slice y l.qg.length a] 204)).alloc (.cells #[.int .i64 0,.slice none 0 0,.int .i64 0,.pointer none,.pointer none,.pointer none] 301)) #[.int .i64 l.pred,.slice y l.qg.length a,.int .i64 wd,.pointer none,.pointer none,.pointer none] 301;have c:=(Py.new (w.alloc (.cells #[.int .i64 l.pred,.slice y l.qg.length a] 204)) #[.int .i64 0,.slice none 0 0,.int .i64 0,.pointer none,.pointer none,.pointer none] 301).below ((zo _ _).alloc (zf _) (.cells #[.int .i64 l.pred,.slice y l.qg.length a,.int .i64 wd,.pointer none,.pointer none,.pointer none] 301));simp only[World.size_alloc] at S c;generalize yM l=dl at *;go_enter func204,ntmps204;go_upto_region 3 with (first|(go_at_call 212;refine(HD.out _ (by exact(by go_grown))).mono ?_;rintro e w1 ⟨rfl,C⟩;have G:Below w.heap.size w w1:=(zP (by go_grown) C (zf _));have P:=S.below C;have av:=c.below C))
 clear S c C;have a9:lo<=w1.heap.size:=by have:=HL.out;have:=G.size;omega
 obtain⟨s,o,t⟩:=P.boxed;have aJ:=G.size;have ac:Hid (yh lo w1 _ l.qg):=HT.out.below G;go_upto_region 4 with (first|(go_at_call 119;refine(HN.out _).mono ?_;rintro e Q ⟨f,aK,rfl,aa,r⟩;have B:=P.below r;have aq:=av.below r;obtain⟨ao,V,ak⟩:=B.boxed))
 have I:=(zY.new own (k+1,i,0) aa a9).set B (by decide) 3 (pt f);have M:zd [w.heap.size+1+1] Q (Q.setCell ⟨w.heap.size+1+1,3,none⟩ (pt f)):=zd.set _ _ _ _;have K:Hid (yh lo _ _ l.qg):=(ac.out.below r).saveT M (PN.box B) (by decide);have E:Py (Q.setCell ⟨w.heap.size+1+1,3,none⟩ (pt f)) (w.heap.size+1+1) #[.int .i64 l.pred,.slice y l.qg.length a,.int .i64 wd,.pointer (some ⟨f,0,none⟩),.pointer none,.pointer none] 301:=by have q:=B.set 3 (pt f);simpa [pt] using q
 have R:=aq.set_ne (show w.heap.size+1≠w.heap.size+1+1 by omega) 3 (pt f);have L:Below w.heap.size w (Q.setCell ⟨w.heap.size+1+1,3,none⟩ (pt f)):=(P3 G r).setCell (by simp;omega) _;have a0:(Q.setCell ⟨w.heap.size+1+1,3,none⟩ (pt f)).heap.size=Q.heap.size:=by simp[World.setCell]
 have aB:=r.size;generalize x:ext own w1.heap.size (k+1,i,0)=n at *;have N:∀b,b<w.heap.size->n b=own b:=fun b hb=>by rw[←x];exact gR _ _ _ _ (by omega)
 have ad:pt f=.pointer (some ⟨f,0,none⟩):=rfl;rw[ad] at I M K E R L a0;generalize Q.setCell ⟨w.heap.size+1+1,3,none⟩ (.pointer (some ⟨f,0,none⟩))=w3 at *;clear x aa r B aq ao V ak s o t P av ac M ad;have a6:lo<=w3.heap.size:=by omega
 obtain⟨s,o,t⟩:=E.boxed;go_upto_region 5 with (first|(go_at_call 119;refine(HN.out _).mono ?_;rintro e J ⟨m,aL,rfl,an,c⟩;have p:=E.below c;have am:=R.below c;obtain⟨au,X,ar⟩:=p.boxed))
 have az:=(I.mod (P6.extNew (ok:=fun _ _=>False) n (k+1,i,1) c) (fun _ _=>id)).set p (by decide) 4 (.pointer (some ⟨m,0,none⟩));have ax:=(zY.new n (k+1,i,1) an a6).set p (by decide) 4 (.pointer (some ⟨m,0,none⟩));have ah:zd [w.heap.size+1+1] J (J.setCell ⟨w.heap.size+1+1,4,none⟩ (.pointer (some ⟨m,0,none⟩))):=zd.set _ _ _ _;have al:Hid (yh lo _ _ l.qg):=(K.out.below c).saveT ah (PN.box p) (by decide);have O:Py (J.setCell ⟨w.heap.size+1+1,4,none⟩ (.pointer (some ⟨m,0,none⟩))) (w.heap.size+1+1) #[.int .i64 l.pred,.slice y l.qg.length a,.int .i64 wd,.pointer (some ⟨f,0,none⟩),.pointer (some ⟨m,0,none⟩),.pointer none] 301:=by have q:=p.set 4 (.pointer (some ⟨m,0,none⟩));simpa using q
 have ap:=am.set_ne (show w.heap.size+1≠w.heap.size+1+1 by omega) 4 (.pointer (some ⟨m,0,none⟩));have ai:Below w.heap.size w (J.setCell ⟨w.heap.size+1+1,4,none⟩ (.pointer (some ⟨m,0,none⟩))):=(P3 L c).setCell (by simp;omega) _;have aF:(J.setCell ⟨w.heap.size+1+1,4,none⟩ (.pointer (some ⟨m,0,none⟩))).heap.size=J.heap.size:=by simp[World.setCell]
 have a4:=c.size;generalize z:ext n w3.heap.size (k+1,i,1)=d at *;have T:∀b,b<w.heap.size->d b=own b:=fun b hb=>by rw[←z,gR _ _ _ _ (by omega)];exact N b hb
 generalize J.setCell ⟨w.heap.size+1+1,4,none⟩ (.pointer (some ⟨m,0,none⟩))=w5 at *;clear z an c p am au X ar s o t E R I K ah L;have a1:lo<=w5.heap.size:=by omega
 obtain⟨s,o,t⟩:=O.boxed;go_upto_region 6 with (first|(go_at_call 119;refine(HN.out _).mono ?_;rintro e Y ⟨u,aG,rfl,ab,g⟩;have j:=O.below g;have ae:=ap.below g;obtain⟨aj,aw,af⟩:=j.boxed))
 have a5:=(az.mod (P6.extNew (ok:=fun _ _=>False) d (k+1,i,2) g) (fun _ _=>id)).set j (by decide) 5 (.pointer (some ⟨u,0,none⟩));have a2:=(ax.mod (P6.extNew (ok:=fun _ _=>False) d (k+1,i,2) g) (fun _ _=>id)).set j (by decide) 5 (.pointer (some ⟨u,0,none⟩));have aA:=(zY.new d (k+1,i,2) ab a1).set j (by decide) 5 (.pointer (some ⟨u,0,none⟩));have ag:zd [w.heap.size+1+1] Y (Y.setCell ⟨w.heap.size+1+1,5,none⟩ (.pointer (some ⟨u,0,none⟩))):=zd.set _ _ _ _;have aC:Hid (yh lo _ _ l.qg):=(al.out.below g).saveT ag (PN.box j) (by decide);have a7:Py (Y.setCell ⟨w.heap.size+1+1,5,none⟩ (.pointer (some ⟨u,0,none⟩))) (w.heap.size+1+1) #[.int .i64 l.pred,.slice y l.qg.length a,.int .i64 wd,.pointer (some ⟨f,0,none⟩),.pointer (some ⟨m,0,none⟩),.pointer (some ⟨u,0,none⟩)] 301:=by have q:=j.set 5 (.pointer (some ⟨u,0,none⟩));simpa using q
 have ay:=ae.set_ne (show w.heap.size+1≠w.heap.size+1+1 by omega) 5 (.pointer (some ⟨u,0,none⟩));have aD:Below w.heap.size w (Y.setCell ⟨w.heap.size+1+1,5,none⟩ (.pointer (some ⟨u,0,none⟩))):=(P3 ai g).setCell (by simp;omega) _;generalize A:ext d w5.heap.size (k+1,i,2)=H at *;have U:∀b,b<w.heap.size->H b=own b:=fun b hb=>by rw[←A,gR _ _ _ _ (by omega)];exact T b hb
 generalize Y.setCell ⟨w.heap.size+1+1,5,none⟩ (.pointer (some ⟨u,0,none⟩))=w7 at *;clear A ab g j ae aj aw af s o t O ap az ax al ag ai;obtain⟨s,o,t⟩:=a7.boxed;obtain⟨a8,aH,aI⟩:=ay.boxed;go_wp2
 (try simp only[Exit.inBlock,Exit.then])
 have F:zd [w.heap.size+1] w7 ((((((w7.setCell ⟨w.heap.size+1,0,none⟩ (.int .i64 l.pred)).setCell ⟨w.heap.size+1,1,none⟩ (.slice y l.qg.length a)).setCell ⟨w.heap.size+1,2,none⟩ (.int .i64 wd)).setCell ⟨w.heap.size+1,3,none⟩ (.pointer (some ⟨f,0,none⟩))).setCell ⟨w.heap.size+1,4,none⟩ (.pointer (some ⟨m,0,none⟩))).setCell ⟨w.heap.size+1,5,none⟩ (.pointer (some ⟨u,0,none⟩))):=(((((zd.set _ _ _ _).trans (zd.set _ _ _ _)).trans (zd.set _ _ _ _)).trans (zd.set _ _ _ _)).trans (zd.set _ _ _ _)).trans (zd.set _ _ _ _);have D:=PN.box ay;refine zK (v:=.agg #[.int .i64 l.pred,.slice y l.qg.length a,.int .i64 wd,.pointer (some ⟨f,0,none⟩),.pointer (some ⟨m,0,none⟩),.pointer (some ⟨u,0,none⟩)]) (by simp[results,results204,go_sem,a8]) rfl ⟨⟨.slice y l.qg.length a,f,m,u⟩,H,rfl,by rw[Z.out];rfl,?_,U,?_⟩
 ·rw[Z.out];exact⟨aC.out.saveT F D (by decide),a5.saveT F D (by decide),a2.saveT F D (by decide),aA.saveT F D (by decide)⟩
 ·exact(((((aD.setCell (by simp) _).setCell (by simp) _).setCell (by simp) _).setCell (by simp) _).setCell (by simp) _).setCell (by simp) _
end
end Go.Proofs.YteampbddflhngaaGreat
