import Derived.Test.YteampbddflhngaaGreatV12
namespace Go.Proofs.YteampbddflhngaaGreat
set_option maxRecDepth 100000
set_option maxHeartbeats 4000000
open Go.RowKit
section
open Go.Proofs.Tryz
variable {lo:Nat}
def P7(ns:List ByteArray)(x:ByteArray):Nat->Nat->Nat->Nat
 |0,l,_=>l
 |n+1,l,h=>if l<h then(if P5 (ns.getD (l+(h-l) / 2) ByteArray.empty) x then P7 ns x n (l+(h-l) / 2+1) h else P7 ns x n l (l+(h-l) / 2)) else l
def xO(ns:List ByteArray)(x:ByteArray):Nat:=P7 ns x (ns.length+1) 0 ns.length
def lA(lo:Nat)(w:World)(a:Nat)(ns:List ByteArray):Prop:=lo<=a/\∃v,OZ w a #[v] 141/\Pg lo w v ns
theorem lA.below{w c:World}{b:Nat}{ns:List ByteArray}(h:lA lo w b ns)(a:Below w.heap.size w c):lA lo c b ns:=by
 obtain⟨e,v,d,f⟩:=h;exact⟨e,v,d.below a,f.below a⟩
theorem AB(w:World)(z:Nat)(ns:List ByteArray)(x:ByteArray)(h:lA lo w z ns)(N:ns.length<=1000):
  Calls prog 168 #[.pointer (some ⟨z,0,none⟩),.string x] w fun e F=>e=.returned (.int .i64 (xO ns x:Nat))/\∃m,F=w.drewN m:=by
 obtain⟨_,v,f,y⟩:=h;obtain⟨M,H,rfl⟩:=y.qw;obtain⟨D,I⟩:=f.rules;go_enter func168,ntmps168;go_wp2;go_quiet (fail)
 have t:Below w.heap.size w (w.drewN nq):=zI (zo _ _) _;have j:=f.below t;have p:=y.below t;have r:Hid (∃m,w.drewN nq=w.drewN m):=⟨nq,rfl⟩;generalize w.drewN nq=L at *;obtain⟨D,I⟩:=j.rules;go_wp2;go_loopg [5,6] (ns.length+1) (fun k C E wr=>∃l h:Nat,C=.int .i64 l/\E=.int .i64 h/\h<=ns.length/\l<=ns.length/\h-l<k/\Hid (xO ns x=P7 ns x k l h)/\wr=L)
 case atStart=>exact⟨0,ns.length,rfl,rfl,by omega,by omega,by omega,rfl,rfl⟩
 case round=>
  obtain⟨l,h,rfl,rfl,G,o,K,u,rfl⟩:=hrel;cases gk with
  |zero=>omega
  |succ m=>
   by_cases d:l<h
   ·obtain⟨a,i⟩:∃a,a=l+(h-l) / 2:=⟨_,rfl⟩;have J:l<=a:=by omega
    have A:a<h:=by omega
    have B:(l:Int)+((h:Int)-(l:Int)).tdiv 2=(a:Int):=by
     rw[Int.tdiv_eq_ediv_of_nonneg (by omega)];omega
    have b:a<ns.length:=by omega
    have q:=u.out;unfold P7 at q;rw[zb d,←i,show ns.getD a ByteArray.empty=ns[a] from by simp[List.getD_eq_getElem?_getD,b]] at q;obtain⟨g,rfl,O,s⟩:=p.cell a b;clear i;cases n:P5 ns[a] x with
    |true=>
     rw[n,zb rfl] at q;have c:=OY q;unfold P5 at n;go_wp2;go_roundg m
     case measure=>omega
     case rel=>exact⟨a+1,h,by go_num,rfl,G,by omega,by omega,c,rfl⟩
    |false=>
     rw[n,za (by simp)] at q;have c:=OY q;unfold P5 at n;go_wp2;go_roundg m
     case measure=>omega
     case rel=>exact⟨l,a,rfl,rfl,by omega,o,by omega,c,rfl⟩
   ·have q:=u.out;unfold P7 at q;rw[za d] at q;have c:=OY q;go_wp2;go_ret;exact⟨by rw[c.out];rfl,r.out⟩
def yT(ns:List ByteArray)(x:ByteArray):Option Nat:=if xO ns x<ns.length/\ns.getD (xO ns x) ByteArray.empty=x then some (xO ns x) else none
theorem Id(w:World)(u:Nat)(ns:List ByteArray)(x:ByteArray)(h:lA lo w u ns)(E:ns.length<=1000):
  Calls prog 129 #[.pointer (some ⟨u,0,none⟩),.string x] w fun e l=>e=.returned (.tuple #[.int .i64 (((yT ns x).getD 0:Nat):Int),.bool (yT ns x).isSome])/\∃m,l=w.drewN m:=by
 have n:=OY (AB w u ns x h E);obtain⟨_,v,f,s⟩:=h;obtain⟨F,D,rfl⟩:=s.qw;have d:Hid (yT ns x=if xO ns x<ns.length/\ns.getD (xO ns x) ByteArray.empty=x then some (xO ns x) else none):=rfl;generalize xO ns x=c at *;by_cases j:c<ns.length
 ·have B:ns.getD c ByteArray.empty=ns[c]:=by simp[List.getD_eq_getElem?_getD,j]
  rw[B] at d;by_cases t:ns[c]=x
  ·rw[zb ⟨j,t⟩] at d;obtain⟨g,rfl,k,b⟩:=s.cell c j;go_enter func129,ntmps129;go_wp2_with (first|(go_at_call 168;refine n.out.mono ?_;rintro r l ⟨rfl,m,rfl⟩;have a:=f.below (zI (zo _ _) m);obtain⟨y,z,i⟩:=a.boxed;have A:=((zI (zo w.heap.size w) m).cell (p:=⟨g,c,none⟩) k).trans b;have o:g<(w.drewN m).heap.size:=k))
   go_ret2
   exact⟨by rw[d.out];rfl,m,rfl⟩
  ·rw[za (fun q=>t q.2)] at d;obtain⟨g,rfl,k,b⟩:=s.cell c j;have C:=qz t;go_enter func129,ntmps129;go_wp2_with (first|(go_at_call 168;refine n.out.mono ?_;rintro r l ⟨rfl,m,rfl⟩;have a:=f.below (zI (zo _ _) m);obtain⟨y,z,i⟩:=a.boxed;have A:=((zI (zo w.heap.size w) m).cell (p:=⟨g,c,none⟩) k).trans b;have o:g<(w.drewN m).heap.size:=k))
   go_ret2
   exact⟨by rw[d.out];rfl,m,rfl⟩
 ·rw[za (fun q=>j q.1)] at d;go_enter func129,ntmps129;go_wp2_with (first|(go_at_call 168;refine n.out.mono ?_;rintro r l ⟨rfl,m,rfl⟩;have a:=f.below (zI (zo _ _) m);obtain⟨y,z,i⟩:=a.boxed))
  go_ret2
  exact⟨by rw[d.out];rfl,m,rfl⟩
theorem NY(w:World)(c:Nat)(ns:List ByteArray)(h:lA lo w c ns):
  Calls prog 114 #[.pointer (some ⟨c,0,none⟩)] w fun e g=>e=.returned (.int .i64 ns.length)/\g=w:=by
 obtain⟨_,v,a,b⟩:=h;obtain⟨j,f,rfl⟩:=b.qw;obtain⟨i,k,d⟩:=a.boxed;clear b;go_enter func114,ntmps114;go_wp2;go_ret;exact⟨rfl,rfl⟩
def js(lo:Nat)(w:World)(a:Nat)(v:Value)(ns:List ByteArray):Prop:=lo<=a/\OZ w a #[v] 141/\Pg lo w v ns
theorem js.tab{w:World}{a:Nat}{v:Value}{ns:List ByteArray}(h:js lo w a v ns):lA lo w a ns:=⟨h.1,v,h.2.1,h.2.2⟩
theorem js.below{w c:World}{a:Nat}{v:Value}{ns:List ByteArray}(h:js lo w a v ns)(b:Below w.heap.size w c):js lo c a v ns:=⟨h.1,h.2.1.below b,h.2.2.below b⟩
def lr(ns:List ByteArray)(x:ByteArray):List ByteArray:=if xO ns x<ns.length/\ns.getD (xO ns x) ByteArray.empty=x then ns else ns.take (xO ns x)++x::ns.drop (xO ns x)
def er(lo:Nat)(w:World)(b:Nat)(v:Value)(ns:List ByteArray)(e:Ending)(c:World):Prop:=e=.returned (.tuple #[])/\∃a,js lo c b a ns/\zd (b::v.ownBlock.toList) w c/\(a.ownBlock=v.ownBlock∨∃g,a.ownBlock=some g/\w.heap.size<=g)
theorem Ga(ns:List ByteArray)(x:ByteArray)(k:Nat)(b:k<ns.length):(((ns.take (k+1)++x::ns.drop (k+1)).set (k+1) ns[k]).set k x)=ns.take k++x::ns.drop k:=by
 have a:(ns.take k).length=k:=by simp;omega
 rw[yM b,xg b,ki,fA _ _ (by omega),a,show k+1-k=1 from by omega,fA _ _ (by omega),a,jK];rfl
theorem EH(w:World)(n:Nat)(v:Value)(ns:List ByteArray)(x:ByteArray)(h:js lo w n v ns)(hl:ns.length<=900):
  Calls prog 157 #[.pointer (some ⟨n,0,none⟩),.string x] w fun e w'=>er lo w n v (lr ns x) e w':=by
 have HP:=OY (AB w n ns x h.tab (by omega));have HH:=OY h;obtain⟨ab,Q,hs⟩:=h;obtain⟨ao,l,rfl⟩:=hs.qw;have HE:Hid (lr ns x=if xO ns x<ns.length/\ns.getD (xO ns x) ByteArray.empty=x then ns else ns.take (xO ns x)++x::ns.drop (xO ns x)):=rfl;generalize xO ns x=f at *;by_cases S:f<ns.length/\ns.getD f ByteArray.empty=x
 ·rw[zb S] at HE;obtain⟨R,h2⟩:=S;rw[show ns.getD f ByteArray.empty=ns[f] from by simp[List.getD_eq_getElem?_getD,R]] at h2;obtain⟨g,rfl,T,C⟩:=hs.cell f R;have al:=ka h2;clear h2;generalize ns[f]=y at *;go_enter func157,ntmps157;go_wp2_with (first|(go_at_call 168;refine HP.out.mono ?_;rintro r w' ⟨rfl,m,rfl⟩;have d:=Q.below (zI (zo _ _) m);obtain⟨hc,hf,F⟩:=d.boxed;have hx:=((zI (zo w.heap.size w) m).cell (p:=⟨g,f,none⟩) T).trans C;have ay:g<(w.drewN m).heap.size:=T))
  (try simp only[Exit.inBlock,Exit.then]);refine zJ (results_none rfl _ _ _) rfl ?_
  exact⟨rfl,_,by rw[HE.out];exact HH.out.below (zI (zo _ _) m),zd.of (zI (zo _ _) m),zf rfl⟩
 ·rw[za S] at HE;obtain⟨i0,hi,af,ae,aj⟩:=info_parts O4;have ak:Hid (∀m,f<ns.length->∃(y:ByteArray) (g:Nat),ao=some ⟨g,0,none⟩/\g<(w.drewN m).heap.size/\(w.drewN m).cell? ⟨g,f,none⟩=some (.string y)/\(y.toList == x.toList)=false):=fun m R=>by
   obtain⟨g,e,T,C⟩:=hs.cell f R;have hn:ns[f]≠x:=fun q=>S ⟨R,by rw[←q];simp[List.getD_eq_getElem?_getD,R]⟩;exact⟨ns[f],g,e,T,((zI (zo w.heap.size w) m).cell (p:=⟨g,f,none⟩) T).trans C,qz hn⟩
  have au:lo<=w.heap.size:=by have:=Q.lt;omega
  by_cases R:f<ns.length
  ·obtain⟨yy,gg,X,_⟩:=ak.out 0 R;subst X;go_enter func157,ntmps157;go_wp2_with (first|(go_at_call 168;refine HP.out.mono ?_;rintro r w' ⟨rfl,m,rfl⟩;have o:Below w.heap.size w (w.drewN m):=(zI (zo _ _) m);have d:=Q.below o;obtain⟨hc,hf,F⟩:=d.boxed;have K:=hs.below o;obtain⟨y,g,X,T,hx,al⟩:=ak.out m R;simp only[zs,Addr.mk.injEq] at X;obtain⟨rfl,_⟩:=X)|(at_builtin;refine d8 (w.drewN m) _ [.string x] _ rfl (.tmp 31) (.tmp 33) 30 rfl lo 9 i0 _ 1 16 underlying30 hi af ae aj rfl (by decide) (.slice (some ⟨gg,0,none⟩) ns.length l) ns.length (ns.map Value.string) rfl K (zo _ _) _ _ rfl (by simp) rfl (by simp[Value.oneCell']) (by omega) (by omega) (by omega) ?_;intro v' P s B t;obtain⟨ar,a,rfl⟩:=zq s;have c:=d.save B (qD K d (by decide));obtain⟨W,Z,G⟩:=c.boxed))
   obtain⟨b,ah,L,V,ap,_⟩:=y7 s (by omega);simp only[Value.slice.injEq] at L;obtain⟨rfl,_,I⟩:=L;clear I;have O:b≠n:=xL s c (by decide) rfl;have u:=c.set 0 (.slice (some ⟨b,0,none⟩) (ns.length+1) a);simp at u;have Y:Pg lo (P.setCell ⟨n,0,none⟩ (.slice (some ⟨b,0,none⟩) (ns.length+1) a)) (.slice (some ⟨b,0,none⟩) (ns.length+1) a) (ns.take ns.length++x::ns.drop ns.length):=by
    have q:=xQ s ((Pm.refl n P).setCell 0 (.slice (some ⟨b,0,none⟩) (ns.length+1) a)) c (by decide);unfold Pg;simpa using q
   have H:∀y∈[b],y∈n::(Value.slice (some ⟨gg,0,none⟩) ns.length l).ownBlock.toList∨w.heap.size<=y:=fun y A=>by
    simp only[ud] at A;subst A;rcases t with q|⟨g,q,T⟩
    ·left;simp only[zw];right;rw[←q];simp[Value.ownBlock]
    ·right;simp only[Value.ownBlock,zs] at q;have:=o.size;omega
   have J:zd (n::(Value.slice (some ⟨gg,0,none⟩) ns.length l).ownBlock.toList) w (P.setCell ⟨n,0,none⟩ (.slice (some ⟨b,0,none⟩) (ns.length+1) a)):=((zd.of (M:=n::(Value.slice (some ⟨gg,0,none⟩) ns.length l).ownBlock.toList) o).newer B (fun y A=>zf (nW _ A))).newer (zd.set _ _ _ _) (fun y A=>zf (by simp at A;simp[A]));have N:(Value.slice (some ⟨b,0,none⟩) (ns.length+1) a).ownBlock=(Value.slice (some ⟨gg,0,none⟩) ns.length l).ownBlock∨∃g,(Value.slice (some ⟨b,0,none⟩) (ns.length+1) a).ownBlock=some g/\w.heap.size<=g:=t.imp id (fun⟨g,q1,q2⟩=>⟨g,q1,by have:=o.size;omega⟩);clear hc hf F W Z G B t s;generalize P.setCell ⟨n,0,none⟩ (.slice (some ⟨b,0,none⟩) (ns.length+1) a)=w5 at *;generalize decide (f<ns.length)=bq;go_loopw [5] (fun v5 wr=>∃k:Nat,v5=.int .i64 k/\k<=ns.length/\(f<=k∨k=ns.length)/\OZ wr n #[.slice (some ⟨b,0,none⟩) (ns.length+1) a] 141/\Pg lo wr (.slice (some ⟨b,0,none⟩) (ns.length+1) a) (ns.take k++x::ns.drop k)/\zd (n::(Value.slice (some ⟨gg,0,none⟩) ns.length l).ownBlock.toList) w wr) (fun i _=>(intOf i).toNat)
   case atStart=>exact⟨ns.length,by go_num,zh _,ze rfl,u,Y,J⟩
   case round=>
    obtain⟨k,rfl,hk,an,E,z,D⟩:=hrel;obtain⟨hc,hf,F⟩:=E.boxed;by_cases ac:f<k
    ·obtain⟨j,rfl⟩:∃j,k=j+1:=⟨k-1,by omega⟩;have hj:j<ns.length:=by omega
     have ag:(ns.take (j+1)++x::ns.drop (j+1)).length=ns.length+1:=by simp;omega
     have av:b<wr.heap.size:=yO z rfl;have ax:=qt z;obtain⟨_,e0,_,am⟩:=z.cell j (by omega);obtain⟨_,X,_,aw⟩:=z.cell (j+1) (by omega);simp only[zs,Addr.mk.injEq] at e0 X;obtain⟨rfl,_⟩:=e0;obtain⟨rfl,_⟩:=X;have ej:(ns.take (j+1)++x::ns.drop (j+1))[j]'(by omega)=ns[j]:=by
      rw[uT (by simp;omega)];simp
     rw[ej] at am;have q1:=uK z (j+1) (by simp;omega) (.string ns[j]);have q2:=uK q1 j (by simp;omega) (.string x);have el:(((ns.take (j+1)++x::ns.drop (j+1)).map Value.string).set (j+1) (.string ns[j])).set j (.string x)=(ns.take j++x::ns.drop j).map Value.string:=by
      rw[←fu,←fu,Ga ns x j hj]
     rw[el] at q2;have aa:(ns.take j++x::ns.drop j).length=ns.length+1:=by simp;omega
     have aq:Pg lo ((wr.setCell ⟨b,j+1,none⟩ (.string ns[j])).setCell ⟨b,j,none⟩ (.string x)) (.slice (some ⟨b,0,none⟩) (ns.length+1) a) (ns.take j++x::ns.drop j):=by
      unfold Pg;rw[aa];rw[ag] at q2;exact q2
     have ad:=(E.set_ne (Ne.symm O) (j+1) (.string ns[j])).set_ne (Ne.symm O) j (.string x);have ai:=(D.newer (zd.set wr b (j+1) (.string ns[j])) H).newer (zd.set _ b j (.string x)) H;generalize (ns.take (j+1)++x::ns.drop (j+1))[j+1]'(by omega)=zz at *;clear ej q1 q2 el;generalize ns[j]=yj at *;have a0:(j:Int)<(ns.length:Int):=by omega
     go_wp2;go_region
     all_goals
      go_wp2;go_roundw
      case rel=>exact⟨j,by go_num,by omega,zf (by omega),ad.below (zo _ _).drew,aq.below (zo _ _).drew,ai.newer (zd.of (M:=[]) (zo _ _).drew) (by simp)⟩
      case measure=>simp[intOf]
    ·have U:Hid (ns.take k++x::ns.drop k=ns.take f++x::ns.drop f):=by
      rw[Hid];by_cases e:k=f
      ·rw[e]
      ·obtain rfl:k=ns.length:=by omega
       rw[xk (zh _),rU (zh _),xk (by omega),rU (by omega)]
     go_wp2;go_end0
     exact⟨rfl,_,by rw[HE.out,←U.out];exact⟨ab,E,z⟩,D,N⟩
  ·have az:ns.length<=f:=by omega
   go_enter func157,ntmps157;go_wp2_with (first|(go_at_call 168;refine HP.out.mono ?_;rintro r w' ⟨rfl,m,rfl⟩;have o:Below w.heap.size w (w.drewN m):=(zI (zo _ _) m);have d:=Q.below o;obtain⟨hc,hf,F⟩:=d.boxed;have K:=hs.below o)|(at_builtin;refine d8 (w.drewN m) _ [.string x] _ rfl (.tmp 31) (.tmp 33) 30 rfl lo 9 i0 _ 1 16 underlying30 hi af ae aj rfl (by decide) (.slice ao ns.length l) ns.length (ns.map Value.string) rfl K (zo _ _) _ _ rfl (by simp) rfl (by simp[Value.oneCell']) (by omega) (by omega) (by omega) ?_;intro v' P s B t;obtain⟨ar,a,rfl⟩:=zq s;have c:=d.save B (qD K d (by decide));obtain⟨W,Z,G⟩:=c.boxed))
   obtain⟨b,ah,L,V,ap,_⟩:=y7 s (by omega);simp only[Value.slice.injEq] at L;obtain⟨rfl,_,I⟩:=L;clear I;have O:b≠n:=xL s c (by decide) rfl;have u:=c.set 0 (.slice (some ⟨b,0,none⟩) (ns.length+1) a);simp at u;have Y:Pg lo (P.setCell ⟨n,0,none⟩ (.slice (some ⟨b,0,none⟩) (ns.length+1) a)) (.slice (some ⟨b,0,none⟩) (ns.length+1) a) (ns.take ns.length++x::ns.drop ns.length):=by
    have q:=xQ s ((Pm.refl n P).setCell 0 (.slice (some ⟨b,0,none⟩) (ns.length+1) a)) c (by decide);unfold Pg;simpa using q
   have H:∀y∈[b],y∈n::(Value.slice ao ns.length l).ownBlock.toList∨w.heap.size<=y:=fun y A=>by
    simp only[ud] at A;subst A;rcases t with q|⟨g,q,T⟩
    ·left;simp only[zw];right;rw[←q];simp[Value.ownBlock]
    ·right;simp only[Value.ownBlock,zs] at q;have:=o.size;omega
   have J:zd (n::(Value.slice ao ns.length l).ownBlock.toList) w (P.setCell ⟨n,0,none⟩ (.slice (some ⟨b,0,none⟩) (ns.length+1) a)):=((zd.of (M:=n::(Value.slice ao ns.length l).ownBlock.toList) o).newer B (fun y A=>zf (nW _ A))).newer (zd.set _ _ _ _) (fun y A=>zf (by simp at A;simp[A]));have N:(Value.slice (some ⟨b,0,none⟩) (ns.length+1) a).ownBlock=(Value.slice ao ns.length l).ownBlock∨∃g,(Value.slice (some ⟨b,0,none⟩) (ns.length+1) a).ownBlock=some g/\w.heap.size<=g:=t.imp id (fun⟨g,q1,q2⟩=>⟨g,q1,by have:=o.size;omega⟩);clear hc hf F W Z G B t s;generalize P.setCell ⟨n,0,none⟩ (.slice (some ⟨b,0,none⟩) (ns.length+1) a)=w5 at *;generalize decide (f<ns.length)=bq;go_loopw [5] (fun v5 wr=>∃k:Nat,v5=.int .i64 k/\k<=ns.length/\(f<=k∨k=ns.length)/\OZ wr n #[.slice (some ⟨b,0,none⟩) (ns.length+1) a] 141/\Pg lo wr (.slice (some ⟨b,0,none⟩) (ns.length+1) a) (ns.take k++x::ns.drop k)/\zd (n::(Value.slice ao ns.length l).ownBlock.toList) w wr) (fun i _=>(intOf i).toNat)
   case atStart=>exact⟨ns.length,by go_num,zh _,ze rfl,u,Y,J⟩
   case round=>
    obtain⟨k,rfl,hk,an,E,z,D⟩:=hrel;obtain⟨hc,hf,F⟩:=E.boxed;by_cases ac:f<k
    ·exact zC ac (by omega)
    ·have U:Hid (ns.take k++x::ns.drop k=ns.take f++x::ns.drop f):=by
      rw[Hid];by_cases e:k=f
      ·rw[e]
      ·obtain rfl:k=ns.length:=by omega
       rw[xk (zh _),rU (zh _),xk (by omega),rU (by omega)]
     go_wp2;go_end0
     exact⟨rfl,_,by rw[HE.out,←U.out];exact⟨ab,E,z⟩,D,N⟩
end
section
open Go.Proofs.Tryz
variable {lo:Nat}{cb:Nat}
def vW(ns:List ByteArray)(t:ByteArray):List ByteArray:=if zV t then ns else lr ns t
def ux(ns:List ByteArray)(l:zj):List ByteArray:=l.args.foldl vW ns
def vw(ns:List ByteArray)(c:zc):List ByteArray:=c.body.foldl ux (ux ns c.head)
def zp(cs:List zc):List ByteArray:=cs.foldl vw []
theorem Gx(ns:List ByteArray)(t:ByteArray):(vW ns t).length<=ns.length+1:=by
 unfold vW;split
 ·omega
 ·unfold lr;split
  ·omega
  ·simp only[yz,yZ,qa,List.length_drop];omega
theorem so(ts:List ByteArray):∀a:List ByteArray,(ts.foldl vW a).length<=a.length+ts.length:=by
 induction ts with
 |nil=>intro a;simp
 |cons t ts b=>intro a;have:=b (vW a t);have:=Gx a t;simp only[uv,yZ];omega
def jo(l:zj):Nat:=l.args.length
def jE(a:List zj):Nat:=(a.map jo).sum
def kZ(cs:List zc):Nat:=(cs.map fun c=>jo c.head+jE c.body).sum
theorem Ek(b:List zj):∀a:List ByteArray,(b.foldl ux a).length<=a.length+jE b:=by
 induction b with
 |nil=>intro a;simp[jE]
 |cons l b c=>intro a;have:=c (ux a l);have:=so l.args a;simp only[uv,jE,jx,mW,jo] at *;unfold ux at *;omega
theorem tI(cs:List zc):∀a:List ByteArray,(cs.foldl vw a).length<=a.length+kZ cs:=by
 induction cs with
 |nil=>intro a;simp[kZ]
 |cons c cs b=>intro a;have:=b (vw a c);have:=Ek c.body (ux a c.head);have:=so c.head.args a;simp only[uv,kZ,jx,mW] at *;unfold vw jo at *;unfold ux at *;omega
theorem Ho(a:List zj)(k:Nat)(b:k<a.length):jE (a.take k)+jo a[k]<=jE a:=by
 have e:a=a.take k++a[k]::a.drop (k+1):=by rw[←xg b,qO]
 conv=>rhs;rw[e]
 simp only[jE,vB,jx,List.sum_append,mW];omega
theorem NQ(cs:List zc)(k:Nat)(a:k<cs.length):kZ (cs.take k)+(jo cs[k].head+jE cs[k].body)<=kZ cs:=by
 have e:cs=cs.take k++cs[k]::cs.drop (k+1):=by rw[←xg a,qO]
 conv=>rhs;rw[e]
 simp only[kZ,vB,jx,List.sum_append,mW];omega
def fR(cb:Nat)(w a:World):Prop:=∀b c t,b≠cb->9≠t->OZ w b c t->OZ a b c t
theorem fR.of{w a:World}(h:Below w.heap.size w a):fR cb w a:=fun _ _ _ _ _ q=>q.below h
theorem fR.trans{a b c:World}(h:fR cb a b)(k:fR cb b c):fR cb a c:=fun _ _ _ n m q=>k _ _ _ n m (h _ _ _ n m q)
theorem er.next{B:Nat}{k w i:World}{v:Value}{ns d:List ByteArray}{e:Ending}(a:js B w cb v ns)(n:Below B k w)(h:er B w cb v d e i):e=.returned (.tuple #[])/\∃j,js B i cb j d/\Below B k i/\fR cb w i:=by
 obtain⟨rfl,j,o,l,r⟩:=h;refine⟨rfl,j,o,n.trans (l.below (fun x f=>?_) ?_),fun b c t m p q=>q.save l fun g=>?_⟩
 ·simp only[zw] at f;rcases f with rfl|f
  ·exact a.1
  ·exact yW a.2.2 (yv f)
 ·have:=a.1;have:=a.2.1.lt;omega
 ·simp only[zw] at g;rcases g with rfl|g
  ·exact m rfl
  ·exact xL a.2.2 q p (yv g) rfl
theorem LP(c w:World)(cb:Nat)(v:Value)(ns:List ByteArray)(l:zj)(N:Value)(J:Pg lo c N l.args)(L:Below c.heap.size c w)(h:js c.heap.size w cb v ns)(K:ns.length+jo l<=900):
  Calls prog 113 #[.pointer (some ⟨cb,0,none⟩),.agg #[.bool l.neg,.string l.pred,N]] w fun e f=>e=.returned (.tuple #[])/\∃p,js c.heap.size f cb p (ux ns l)/\Below c.heap.size c f/\fR cb w f:=by
 obtain⟨ao,V,rfl⟩:=J.qw;have S:=OY fun(W:World) (v:Value) (ns:List ByteArray) (x:ByteArray) (a:js c.heap.size W cb v ns) (b:ns.length<=900)=>EH W cb v ns x a b;have R:Hid (ux ns l=l.args.foldl vW ns):=rfl;have P:=OY h;have Q:=L.size;have U:l.args.length<=900:=by unfold jo at K;omega
 have r:Hid (∀k,k<l.args.length->((l.args.take k).foldl vW ns).length<=900):=fun k Y=>by
  have:=so (l.args.take k) ns;simp only[qa] at this;unfold jo at K;omega
 generalize l.args=j at *;go_enter func113,ntmps113;go_wp2;go_loopw [9] (fun O wr=>∃(k:Nat) (p:Value),k<=j.length/\O=.int .i64 k/\Hid (js c.heap.size wr cb p ((j.take k).foldl vW ns))/\Below c.heap.size c wr/\Hid (fR cb w wr)) (fun i _=>j.length-(intOf i).toNat)
 case atStart=>exact⟨0,v,zv _,rfl,P.out.below (by go_grown),L.alloc Q _,fR.of (by go_grown)⟩
 case round=>
  obtain⟨k,p,Y,rfl,q,d,D⟩:=hrel;have M:=d.size;by_cases m:k<j.length
  ·obtain⟨g,rfl,Z,o⟩:=J.cell k m;have X:=zl d Z o;have I:Hid ((j.take (k+1)).foldl vW ns=vW ((j.take k).foldl vW ns) j[k]):=by rw[Hid,yM m,ju];rfl
   have t:=r.out k m;have y:Hid (∀a x,vW a x=if zV x then a else lr a x):=fun _ _=>rfl;generalize (j.take k).foldl vW ns=s at *;generalize j[k]=x at *;cases B:zV x with
   |true=>
    have C:Hid (∀W,Calls prog 156 #[.string x] W fun e f=>e=.returned (.bool true)/\f=W):=fun W=>by rw[←B];exact fO x W
    have E:Hid (vW s x=s):=by rw[Hid,y.out,B];rfl
    go_wp2_with (first|(go_at_call 156;refine(C.out _).mono ?_;rintro e f ⟨rfl,n⟩;obtain rfl:=n.symm))
    go_roundw
    case rel=>exact⟨k+1,p,by omega,by go_num,by rw[I.out,E.out];exact q.out,d,D⟩
    case measure=>simp[intOf];omega
   |false=>
    have C:Hid (∀W,Calls prog 156 #[.string x] W fun e f=>e=.returned (.bool false)/\f=W):=fun W=>by rw[←B];exact fO x W
    have E:Hid (vW s x=lr s x):=by rw[Hid,y.out,B];rfl
    go_wp2_with (first|(go_at_call 156;refine(C.out _).mono ?_;rintro e f ⟨rfl,n⟩;obtain rfl:=n.symm)|(go_at_call 157;refine(S.out wr p s x q.out t).mono ?_;intro e w2 u;obtain⟨rfl,T,z,H,A⟩:=u.next q.out d;have G:=OY (D.out.trans A);clear A;have F:=OY z;clear u z))
    go_roundw
    case rel=>exact⟨k+1,T,by omega,by go_num,by rw[I.out,E.out];exact F.out,H,G⟩
    case measure=>simp[intOf];omega
  ·rw[xk (by omega)] at q;go_wp2;go_end0
   exact⟨rfl,p,by rw[R.out];exact q.out,d,D.out⟩
def BK(cs:List zc):Prop:=kZ cs<=900/\cs.length<=1000/\∀c∈cs,c.body.length<=1000
theorem JU(w:World)(v:Value)(cs:List zc)(h:PE lo 171 w v cs)(hf:BK cs):
  Calls prog 72 #[v] w fun e w'=>∃r,e=.returned (.agg #[r])/\Pg w.heap.size w' r (zp cs)/\Below w.heap.size w w':=by
 obtain⟨ao,aL,rfl⟩:=h.qw;obtain⟨aC,aM,au⟩:=hf;have HA:=OY fun(W:World) (v:Value) (ns:List ByteArray) (l:zj) (va:Value) (a:Pg lo w va l.args) (b:Below w.heap.size w W) (c:js w.heap.size W (w.heap.size+1) v ns) (d:ns.length+jo l<=900)=>LP w W _ v ns l va a b c d;have HE:Hid (zp cs=cs.foldl vw []):=rfl;have HH:=OY h;have I:Hid (∀k (hk:k<cs.length),((cs.take k).foldl vw []).length+jo cs[k].head+jE cs[k].body<=900):=fun k hk=>by
  have:=tI (cs.take k) [];have:=NQ cs k hk;simp only[jH] at *;omega
 have am:=(OZ.new w #[.slice none 0 0] 141).below ((zo _ _).alloc (zh _) (.cells #[.slice none 0 0] 141));have T:=OZ.new (w.alloc (.cells #[.slice none 0 0] 141)) #[.slice none 0 0] 141;have a0:Below w.heap.size w ((w.alloc (.cells #[.slice none 0 0] 141)).alloc (.cells #[.slice none 0 0] 141)):=(by go_grown);simp only[World.size_alloc] at T;go_enter func72,ntmps72;go_wp2;generalize ((w.alloc (.cells #[.slice none 0 0] 141)).alloc (.cells #[.slice none 0 0] 141))=wA at *;go_loopw [10] (fun aw wr=>∃(k:Nat) (r:Value),k<=cs.length/\aw=.int .i64 k/\Hid (js w.heap.size wr (w.heap.size+1) r ((cs.take k).foldl vw []))/\OZ wr w.heap.size #[.slice none 0 0] 141/\Below w.heap.size w wr) (fun i _=>cs.length-(intOf i).toNat)
 case atStart=>exact⟨0,_,zv _,rfl,⟨by omega,T,Pg.nil _⟩,am,a0⟩
 case round=>
  obtain⟨k,r,hk,rfl,L,p,m⟩:=hrel;have a4:=m.size;by_cases q:k<cs.length
  ·obtain⟨g,ab,H,ad,U,A,X,q0,q1,q2,q3,ah,K⟩:=HH.out.cell k q;subst A;have ac:=zl m X q0;have an:=zl m X q1;have ax:=zl m X q2;have Y:=zl m X q3;have aF:g<wr.heap.size:=by omega
   have HS:Hid ((cs.take (k+1)).foldl vw []=vw ((cs.take k).foldl vw []) cs[k]):=by rw[Hid,yM q,ju];rfl
   have M:=I.out k q;have a3:=au _ (zu q);have aq:Hid (∀a c,vw a c=c.body.foldl ux (ux a c.head)):=fun _ _=>rfl;clear q0 q1 q2 q3;generalize (cs.take k).foldl vw []=V at *;generalize cs[k]=c at *;have ai:=OY fun W a b=>HA.out W r V c.head _ ah b a (by omega);have N:=(OZ.new wr #[.bool c.head.neg,.string c.head.pred,.slice ab c.head.args.length H,.slice ad c.body.length U] 171);go_upto_region 6 with (first|(go_at_call 113;refine(ai.out _ (L.out.below (by go_grown)) (zM m (by go_grown) (zh _))).mono ?_;rintro e w2 ⟨rfl,v2,J,S,B⟩))
   have a6:=L.out.2.1.lt;have G:=B _ _ _ (by omega) (by decide) N;have O:=B _ _ _ (by omega) (by decide) (p.below zO);obtain⟨aj,Z,ap⟩:=G.boxed;have aN:=S.size;have R:=OY J;have y:Hid ((ux V c.head).length+jE c.body<=900):=by
    have:=so c.head.args V;unfold jo at M;unfold Hid ux;omega
   clear B N J ac an ax Y;go_wp2;clear aj Z ap;obtain⟨f,z⟩:∃f,f=c.body:=⟨_,rfl⟩;have ag:=OY z;rw[←z] at K a3 y ⊢;clear z;obtain⟨t,x⟩:∃t,t=ux V c.head:=⟨_,rfl⟩;have af:=OY x;rw[←x] at R y;clear x;go_loopw [20] (fun aa wr=>∃(j:Nat) (r:Value),j<=f.length/\aa=.int .i64 j/\Hid (js w.heap.size wr (w.heap.size+1) r ((f.take j).foldl ux t))/\OZ wr w.heap.size #[.slice none 0 0] 141/\Below w.heap.size w wr) (fun i _=>f.length-(intOf i).toNat)
   case atStart=>exact⟨0,_,zv _,rfl,R,O,S⟩
   case round=>
    obtain⟨j,v3,hj,rfl,C,s,n⟩:=hrel;have a8:=n.size;by_cases o:j<f.length
    ·obtain⟨gl,aK,a5,A,u,p0,p1,p2,a2⟩:=K.cell j o;subst A;have aJ:=zl n u p0;have aE:=zl n u p1;have aD:=zl n u p2;have a7:gl<wr.heap.size:=by omega
     have ae:Hid ((f.take (j+1)).foldl ux t=ux ((f.take j).foldl ux t) f[j]):=by rw[Hid,yM o,ju];rfl
     have D:((f.take j).foldl ux t).length+jo f[j]<=900:=by
      have:=Ek (f.take j) t;have:=Ho f j o;have:=y.out;omega
     clear p0 p1 p2;generalize (f.take j).foldl ux t=nj at *;generalize f[j]=l at *;have al:=OY fun W a b=>HA.out W v3 nj l _ a2 b a D;go_wp2_with (first|(go_at_call 113;refine(al.out _ (C.out.below (by go_grown)) (zM n (by go_grown) (zh _))).mono ?_;rintro e w4 ⟨rfl,v4,F,az,P⟩;have ay:=OY F;have Q:=P _ _ _ (by omega) (by decide) (s.below zO);clear F P))
     go_roundw
     case rel=>exact⟨j+1,v4,by omega,by go_num,by rw[ae.out];exact ay.out,Q,az⟩
     case measure=>simp[intOf];omega
    ·rw[xk (by omega),ag.out] at C;have HQ:Hid (js w.heap.size wr (w.heap.size+1) v3 ((cs.take (k+1)).foldl vw [])):=by rw[Hid,HS.out,aq.out,←af.out];exact C.out
     go_wp2;go_roundw
     case rel=>exact⟨k+1,v3,by omega,by go_num,HQ,s,n⟩
     case measure=>simp[intOf];omega
  ·rw[xk (by omega)] at L;obtain⟨ak,E,rfl⟩:=L.out.2.2.qw;obtain⟨aI,av,ar⟩:=L.out;obtain⟨aG,a9,aB⟩:=av.boxed;obtain⟨a1,aH,aA⟩:=p.boxed;go_wp2
   (try simp only[Exit.inBlock,Exit.then])
   exact zJ (v:=.agg #[.slice ak (cs.foldl vw []).length E]) (by simp[results,results72,go_sem,a1]) rfl ⟨_,rfl,by rw[HE.out];exact(ar.but ((Pm.refl w.heap.size wr).setCell 0 _) p (by decide)),m.setCell (by simp) _⟩
end
section
open Go.Proofs.Tryz
variable {lo:Nat}
def QQ(lo:Nat)(w:World)(a o:Nat)(ns:List ByteArray):Prop:=a<w.heap.size/\∃v,w.cell? ⟨a,o,none⟩=some v/\Pg lo w v ns
theorem QQ.below{w d:World}{c o:Nat}{ns:List ByteArray}(h:QQ lo w c o ns)(a:Below w.heap.size w d):QQ lo d c o ns:=by
 obtain⟨b,v,e,f⟩:=h;exact⟨xo b a.size,v,(a.cell b).trans e,f.below a⟩
theorem My(w:World)(z o:Nat)(ns:List ByteArray)(x:ByteArray)(h:QQ lo w z o ns)(N:ns.length<=1000):
  Calls prog 168 #[.pointer (some ⟨z,o,none⟩),.string x] w fun e F=>e=.returned (.int .i64 (xO ns x:Nat))/\∃m,F=w.drewN m:=by
 obtain⟨j,v,D,y⟩:=h;obtain⟨M,H,rfl⟩:=y.qw;go_enter func168,ntmps168;go_wp2;go_quiet (fail)
 have t:Below w.heap.size w (w.drewN nq):=zI (zo _ _) _;have I:=zl t j D;have p:=y.below t;have r:Hid (∃m,w.drewN nq=w.drewN m):=⟨nq,rfl⟩;generalize w.drewN nq=L at *;go_wp2;go_loopg [5,6] (ns.length+1) (fun k C E wr=>∃l h:Nat,C=.int .i64 l/\E=.int .i64 h/\h<=ns.length/\l<=ns.length/\h-l<k/\Hid (xO ns x=P7 ns x k l h)/\wr=L)
 case atStart=>exact⟨0,ns.length,rfl,rfl,by omega,by omega,by omega,rfl,rfl⟩
 case round=>
  obtain⟨l,h,rfl,rfl,G,n,K,u,rfl⟩:=hrel;cases gk with
  |zero=>omega
  |succ m=>
   by_cases d:l<h
   ·obtain⟨a,f⟩:∃a,a=l+(h-l) / 2:=⟨_,rfl⟩;have J:l<=a:=by omega
    have A:a<h:=by omega
    have B:(l:Int)+((h:Int)-(l:Int)).tdiv 2=(a:Int):=by
     rw[Int.tdiv_eq_ediv_of_nonneg (by omega)];omega
    have b:a<ns.length:=by omega
    have q:=u.out;unfold P7 at q;rw[zb d,←f,show ns.getD a ByteArray.empty=ns[a] from by simp[List.getD_eq_getElem?_getD,b]] at q;obtain⟨g,rfl,O,s⟩:=p.cell a b;clear f;cases i:P5 ns[a] x with
    |true=>
     rw[i,zb rfl] at q;have c:=OY q;unfold P5 at i;go_wp2;go_roundg m
     case measure=>omega
     case rel=>exact⟨a+1,h,by go_num,rfl,G,by omega,by omega,c,rfl⟩
    |false=>
     rw[i,za (by simp)] at q;have c:=OY q;unfold P5 at i;go_wp2;go_roundg m
     case measure=>omega
     case rel=>exact⟨l,a,rfl,rfl,by omega,n,by omega,c,rfl⟩
   ·have q:=u.out;unfold P7 at q;rw[za d] at q;have c:=OY q;go_wp2;go_ret;exact⟨by rw[c.out];rfl,r.out⟩
theorem KA(w:World)(c o:Nat)(ns:List ByteArray)(x:ByteArray)(h:QQ lo w c o ns)(E:ns.length<=1000):
  Calls prog 129 #[.pointer (some ⟨c,o,none⟩),.string x] w fun e n=>e=.returned (.tuple #[.int .i64 (((yT ns x).getD 0:Nat):Int),.bool (yT ns x).isSome])/\∃m,n=w.drewN m:=by
 have t:=OY (My w c o ns x h E);obtain⟨b,v,s,y⟩:=h;obtain⟨F,D,rfl⟩:=y.qw;have i:Hid (yT ns x=if xO ns x<ns.length/\ns.getD (xO ns x) ByteArray.empty=x then some (xO ns x) else none):=rfl;generalize xO ns x=d at *;by_cases j:d<ns.length
 ·have B:ns.getD d ByteArray.empty=ns[d]:=by simp[List.getD_eq_getElem?_getD,j]
  rw[B] at i;by_cases z:ns[d]=x
  ·rw[zb ⟨j,z⟩] at i;obtain⟨g,rfl,l,a⟩:=y.cell d j;go_enter func129,ntmps129;go_wp2_with (first|(go_at_call 168;refine t.out.mono ?_;rintro r n ⟨rfl,m,rfl⟩;have k:=((zI (zo w.heap.size w) m).cell (p:=⟨c,o,none⟩) b).trans s;have f:c<(w.drewN m).heap.size:=b;have A:=((zI (zo w.heap.size w) m).cell (p:=⟨g,d,none⟩) l).trans a;have u:g<(w.drewN m).heap.size:=l))
   go_ret2
   exact⟨by rw[i.out];rfl,m,rfl⟩
  ·rw[za (fun q=>z q.2)] at i;obtain⟨g,rfl,l,a⟩:=y.cell d j;have C:=qz z;go_enter func129,ntmps129;go_wp2_with (first|(go_at_call 168;refine t.out.mono ?_;rintro r n ⟨rfl,m,rfl⟩;have k:=((zI (zo w.heap.size w) m).cell (p:=⟨c,o,none⟩) b).trans s;have f:c<(w.drewN m).heap.size:=b;have A:=((zI (zo w.heap.size w) m).cell (p:=⟨g,d,none⟩) l).trans a;have u:g<(w.drewN m).heap.size:=l))
   go_ret2
   exact⟨by rw[i.out];rfl,m,rfl⟩
 ·rw[za (fun q=>j q.1)] at i;go_enter func129,ntmps129;go_wp2_with (first|(go_at_call 168;refine t.out.mono ?_;rintro r n ⟨rfl,m,rfl⟩;have k:=((zI (zo w.heap.size w) m).cell (p:=⟨c,o,none⟩) b).trans s;have f:c<(w.drewN m).heap.size:=b))
  go_ret2
  exact⟨by rw[i.out];rfl,m,rfl⟩
def TG(B:Nat)(w:World)(tb o:Nat)(t:List zg):Prop:=∃a,tb<w.heap.size/\w.cell? ⟨tb,o,none⟩=some a/\w.ownsRow B 221 3 a t.length (xZ t)
theorem TG.below{B:Nat}{w b:World}{tb o:Nat}{t:List zg}(h:TG B w tb o t)(a:Below w.heap.size w b):TG B b tb o t:=by
 obtain⟨e,d,f,c⟩:=h;exact⟨e,by have:=a.size;omega,(zl a d f),zE c a⟩
theorem TG.view{B:Nat}{w:World}{tb o:Nat}{t:List zg}(h:TG B w tb o t):∃b a,w.cell? ⟨tb,o,none⟩=some (.slice b t.length a)/\w.ownsRow B 221 3 (.slice b t.length a) t.length (xZ t):=by
 obtain⟨e,_,d,c⟩:=h;obtain⟨b,a,rfl⟩:=zq c;exact⟨b,a,d,c⟩
theorem Ch(B:Nat)(w:World)(tb o:Nat)(t:List zg)(n:ByteArray)(h:TG B w tb o t)(u:t.length<=1000):
  Calls prog 126 #[.pointer (some ⟨tb,o,none⟩),.string n] w fun e q=>e=.returned (.int .i64 (zP t n))/\q=w:=by
 obtain⟨r,p,v,d⟩:=h.view;go_enter func126,ntmps126;go_wp2;go_loop [5] (fun i=>∃k:Nat,k<=t.length/\i=.int .i64 k/\Hid (∀j (a:j<t.length),j<k->P5 t[j].name n=true)) (fun i=>t.length-(intOf i).toNat)
 case atStart=>exact⟨0,zv _,rfl,fun j a h=>by omega⟩
 case round=>
  obtain⟨k,x,rfl,H⟩:=hrel;by_cases b:k<t.length
  ·obtain⟨g,rfl,s,_,m,_,_⟩:=kq d k b;cases f:P5 t[k].name n with
   |true=>
    have c:Hid (∀j (a:j<t.length),j<k+1->P5 t[j].name n=true):=fun j a h=>by
     rcases gA j k with l|l
     ·exact H.out j a l
     ·obtain rfl:j=k:=by omega
      exact f
    unfold P5 at f;go_wp2;go_round
    case rel=>exact⟨k+1,by omega,by go_num,c⟩
    case measure=>simp[intOf];omega
   |false=>
    have c:=OY (CV t n k H.out b f);unfold P5 at f;go_wp2;go_ret;exact⟨by rw[c.out];rfl,rfl⟩
  ·have c:Hid (zP t n=k):=by
    have:=Em t n (fun j a=>H.out j a (by omega));unfold Hid;omega
   go_wp2;go_ret;exact⟨by rw[c.out];rfl,rfl⟩
theorem As(B:Nat)(w:World)(tb o:Nat)(t:List zg)(n:ByteArray)(h:TG B w tb o t)(m:t.length<=1000)(i:zY t n=none):
  Calls prog 77 #[.pointer (some ⟨tb,o,none⟩),.string n] w fun e f=>e=.returned (.tuple #[.int .i64 0,.bool false])/\f=w:=by
 have d:=Ch B w tb o t n h m;obtain⟨q,l,s,b⟩:=h.view;have a:=OY d;rcases rQ i with j|⟨j,c⟩
 ·clear i;go_enter func77,ntmps77;go_wp2_with (first|(go_at_call 126;refine a.out.mono ?_;rintro e f ⟨rfl,rfl⟩;clear a))
  go_ret2
  exact⟨rfl,rfl⟩
 ·obtain⟨g,rfl,r,_,k,_,_⟩:=kq b _ j;have p:=qz c;go_enter func77,ntmps77;go_wp2_with (first|(go_at_call 126;refine a.out.mono ?_;rintro e f ⟨rfl,rfl⟩;clear a))
  go_ret2
  exact⟨rfl,rfl⟩
theorem BT(B:Nat)(w:World)(tb o:Nat)(t:List zg)(n:ByteArray)(p:zg)(h:TG B w tb o t)(m:t.length<=1000)(k:zY t n=some p):
  Calls prog 77 #[.pointer (some ⟨tb,o,none⟩),.string n] w fun e j=>e=.returned (.tuple #[.int .i64 (zP t n),.bool true])/\j=w:=by
 have i:=Ch B w tb o t n h m;obtain⟨u,l,s,b⟩:=h.view;have a:=OY i;obtain⟨r,d,q⟩:=qI k;obtain⟨g,rfl,v,_,c,_,f⟩:=kq b _ r;rw[d] at c f;go_enter func77,ntmps77;go_wp2_with (first|(go_at_call 126;refine a.out.mono ?_;rintro e j ⟨rfl,rfl⟩;clear a))
 go_ret2
 exact⟨rfl,rfl⟩
theorem LU(B:Nat)(w:World)(tb o:Nat)(t:List zg)(n:ByteArray)(h:TG B w tb o t)(a:t.length<=1000)(c:zY t n=none):
  Calls prog 159 #[.pointer (some ⟨tb,o,none⟩),.string n] w fun e d=>e=.returned (.tuple #[.int .i64 0,.bool false])/\d=w:=by
 have b:=OY (As B w tb o t n h a c);clear h c a;go_enter func159,ntmps159;go_wp2_with (first|(go_at_call 77;refine b.out.mono ?_;rintro e d ⟨rfl,rfl⟩;clear b))
 go_ret2
 exact⟨rfl,rfl⟩
theorem Lm(B:Nat)(w:World)(tb o:Nat)(t:List zg)(n:ByteArray)(b:zg)(h:TG B w tb o t)(m:t.length<=1000)(c:zY t n=some b):
  Calls prog 159 #[.pointer (some ⟨tb,o,none⟩),.string n] w fun e f=>e=.returned (.tuple #[.int .i64 b.qh,.bool true])/\f=w:=by
 have d:=OY (BT B w tb o t n b h m c);obtain⟨s,l,r,a⟩:=h.view;obtain⟨q,j,p⟩:=qI c;obtain⟨g,rfl,u,_,i,_,k⟩:=kq a _ q;go_enter func159,ntmps159;go_wp2_with (first|(go_at_call 77;refine d.out.mono ?_;rintro e f ⟨rfl,rfl⟩;clear d))
 go_ret2
 exact⟨rfl,rfl⟩
def zF(t:List zg)(n:ByteArray):Nat:=if (zY t n).isSome then zP t n else 0
def xz(t:List zg)(n:ByteArray):Nat:=match zY t n with|some e=>e.qh|none=>0
theorem Eb(B:Nat)(w:World)(tb o:Nat)(t:List zg)(n:ByteArray)(h:TG B w tb o t)(b:t.length<=1000):
  Calls prog 77 #[.pointer (some ⟨tb,o,none⟩),.string n] w fun e d=>e=.returned (.tuple #[.int .i64 (zF t n:Nat),.bool (zY t n).isSome])/\d=w:=by
 unfold zF;cases a:zY t n with
 |none=>exact As B w tb o t n h b a
 |some c=>exact BT B w tb o t n c h b a
theorem Hh(B:Nat)(w:World)(tb o:Nat)(t:List zg)(n:ByteArray)(h:TG B w tb o t)(b:t.length<=1000):
  Calls prog 159 #[.pointer (some ⟨tb,o,none⟩),.string n] w fun e d=>e=.returned (.tuple #[.int .i64 (xz t n:Nat),.bool (zY t n).isSome])/\d=w:=by
 unfold xz;cases a:zY t n with
 |none=>exact LU B w tb o t n h b a
 |some c=>exact Lm B w tb o t n c h b a
def xI(t:List zg)(i:Nat):Nat:=(t.map (·.jf)).getD i 0
theorem L7(B:Nat)(w:World)(tb o:Nat)(t:List zg)(h:TG B w tb o t):
  Calls prog 115 #[.pointer (some ⟨tb,o,none⟩)] w fun e c=>e=.returned (.int .i64 t.length)/\c=w:=by
 obtain⟨d,b,f,a⟩:=h.view;clear h;go_enter func115,ntmps115;go_wp2;go_ret;exact⟨rfl,rfl⟩
theorem AW(B:Nat)(w:World)(tb o:Nat)(t:List zg)(i:Nat)(h:TG B w tb o t):
  Calls prog 80 #[.pointer (some ⟨tb,o,none⟩),.int .i64 i] w fun e j=>e=.returned (.int .i64 (xI t i:Nat))/\j=w:=by
 obtain⟨k,f,m,a⟩:=h.view;by_cases c:i<t.length
 ·obtain⟨g,rfl,l,_,_,d,_⟩:=kq a i c;have b:Hid (xI t i=t[i].jf):=by simp[Hid,xI,c]
  go_enter func80,ntmps80;go_wp2;go_ret;exact⟨by rw[b.out];rfl,rfl⟩
 ·have b:Hid (xI t i=0):=by simp[Hid,xI,List.getD_eq_getElem?_getD,List.getElem?_eq_none (Nat.not_lt.1 c)]
  go_enter func80,ntmps80;go_wp2;go_ret;exact⟨by rw[b.out];rfl,rfl⟩
theorem Ha(w:World)(d:Nat)(f:Value)(vs:List ByteArray)(t:ByteArray)(r:w.cell? ⟨d,0,none⟩=some f)(h:Pg lo w f vs)(p:vs.length<=1000):
  Calls prog 200 #[.pointer (some ⟨d,0,none⟩),.string t] w fun e n=>e=.returned (.tuple #[.int .i64 ((yu vs t).getD 0:Nat),.bool (yu vs t).isSome])/\n=w:=by
 obtain⟨o,m,rfl⟩:=h.qw;go_enter func200,ntmps200;go_wp2;go_loop [13] (fun i=>∃k:Nat,k<=vs.length/\i=.int .i64 k/\Hid (yu vs t=(yu (vs.drop k) t).map (·+k))) (fun i=>vs.length-(intOf i).toNat)
 case atStart=>exact⟨0,zv _,rfl,by simp[Hid]⟩
 case round=>
  obtain⟨k,s,rfl,H⟩:=hrel;by_cases a:k<vs.length
  ·obtain⟨g,rfl,q,l⟩:=h.cell k a;by_cases c:vs[k]=t
   ·have j:=ka c;have b:Hid (yu vs t=some k):=by rw[Hid,H.out,eG a c];simp
    go_wp2;go_ret2
    exact⟨by rw[b.out];rfl,rfl⟩
   ·have j:=qz c;have b:Hid (yu vs t=(yu (vs.drop (k+1)) t).map (·+(k+1))):=by
     rw[Hid,H.out,wt a c];cases yu (vs.drop (k+1)) t<;>simp;omega
    go_wp2;go_round
    case rel=>exact⟨k+1,by omega,by go_num,b⟩
    case measure=>simp[intOf];omega
  ·have b:Hid (yu vs t=none):=by rw[Hid,H.out,ui (by omega)];rfl
   go_wp2;go_ret2
   exact⟨by rw[b.out];rfl,rfl⟩
theorem ix(w:World)(a:Nat)(b:Value)(vs:List ByteArray)(h:w.cell? ⟨a,0,none⟩=some b)(c:Pg lo w b vs):
  Calls prog 146 #[.pointer (some ⟨a,0,none⟩)] w fun e f=>e=.returned (.int .i64 vs.length)/\f=w:=by
 obtain⟨g,d,rfl⟩:=c.qw;go_enter func146,ntmps146;go_wp2;go_ret;exact⟨rfl,rfl⟩
end
section
variable {lo:Nat}{w:World}{v:Value}{o:Option (List Int)}
def jR(w:World)(v:Value)(o:Option (List Int)):Prop:=match o with
 |none=>v=.slice none 0 0
 |some l=>∃g f a,v=.slice (some ⟨g,f,none⟩) l.length a/\g<w.heap.size/\∀k (h:k<l.length),w.cell? ⟨g,f+k,none⟩=some (.int .i64 l[k])
theorem jR.below{c:World}(h:jR w v o)(b:Below w.heap.size w c):jR c v o:=by
 cases o with
 |none=>exact h
 |some l=>
  obtain⟨g,f,a,e,d,j⟩:=h;exact⟨g,f,a,e,by have:=b.size;omega,fun k i=>(b.cell (p:=⟨g,f+k,none⟩) d).trans (j k i)⟩
theorem jR.qw(h:jR w v o):∃b a,v=.slice b (o.getD []).length a:=by
 cases o with
 |none=>exact⟨none,0,h⟩
 |some l=>obtain⟨g,f,a,c,_⟩:=h;exact⟨_,a,c⟩
theorem jR.cell{w:World}{a:Option Addr}{n cap:Nat}{o:Option (List Int)}(h:jR w (.slice a n cap) o)(k:Nat)(c:k<(o.getD []).length):∃g f,a=some ⟨g,f,none⟩/\g<w.heap.size/\w.cell? ⟨g,f+k,none⟩=some (.int .i64 (o.getD [])[k]):=by
 cases o with
 |none=>simp at c
 |some l=>
  obtain⟨g,f,cap,b,d,e⟩:=h;simp only[Value.slice.injEq] at b;exact⟨g,f,b.1,d,e k c⟩
def dW(w:World)(v:Value)(b:Option (List (Option (List Int)))):Prop:=match b with
 |none=>v=.slice none 0 0
 |some l=>∃g f a,v=.slice (some ⟨g,f,none⟩) l.length a/\g<w.heap.size/\∀k (h:k<l.length),∃u,w.cell? ⟨g,f+k,none⟩=some u/\jR w u l[k]
theorem dW.below{w d:World}{v:Value}{b:Option (List (Option (List Int)))}(h:dW w v b)(a:Below w.heap.size w d):dW d v b:=by
 cases b with
 |none=>exact h
 |some l=>
  obtain⟨g,f,c,m,j,p⟩:=h;refine⟨g,f,c,m,by have:=a.size;omega,fun k n=>?_⟩;obtain⟨u,i,e⟩:=p k n;exact⟨u,(zl a j i),e.below a⟩
theorem dW.qw{b:Option (List (Option (List Int)))}(h:dW w v b):∃c a,v=.slice c (b.getD []).length a:=by
 cases b with
 |none=>exact⟨none,0,h⟩
 |some l=>obtain⟨g,f,a,d,_⟩:=h;exact⟨_,a,d⟩
theorem dW.cell{w:World}{b:Option Addr}{n cap:Nat}{a:Option (List (Option (List Int)))}(h:dW w (.slice b n cap) a)(k:Nat)(d:k<(a.getD []).length):∃g f u,b=some ⟨g,f,none⟩/\g<w.heap.size/\w.cell? ⟨g,f+k,none⟩=some u/\jR w u (a.getD [])[k]:=by
 cases a with
 |none=>simp at d
 |some l=>
  obtain⟨g,f,cap,c,j,m⟩:=h;simp only[Value.slice.injEq] at c;obtain⟨u,i,e⟩:=m k d;exact⟨g,f,u,c.1,j,i,e⟩
end
section
open Go.Proofs.Tryz
variable {lo:Nat}{l:List Int}{seen:List Bool}
def gh(n:Nat):List Int->List Bool->Bool
 |[],_=>true
 |x::r,seen=>if x<0∨(n:Int)<=x∨5<=x then false else if seen.getD x.toNat false then false else gh n r (seen.set x.toNat true)
def rM(l:List Int):Bool:=gh l.length l [false,false,false,false,false]
theorem I7{n k:Nat}(a:k<l.length)(h:l[k]<0∨(n:Int)<=l[k]∨5<=l[k]):gh n (l.drop k) seen=false:=by
 rw[xg a,gh,zb h]
theorem N3{n k:Nat}(a:k<l.length)(h:seen.getD l[k].toNat false=true):gh n (l.drop k) seen=false:=by
 rw[xg a,gh];split
 ·rfl
 ·simp
theorem Fr{n k:Nat}(b:k<l.length)(h:¬(l[k]<0∨(n:Int)<=l[k]∨5<=l[k]))(a:seen.getD l[k].toNat false=false):gh n (l.drop k) seen=gh n (l.drop (k+1)) (seen.set l[k].toNat true):=by
 rw[xg b,gh,za h,za (by rw[a];decide)]
theorem IB(w:World)(v:Value)(l:List Int)(h:jR w v (some l))(O:l.length<=2000000):
  Calls prog 155 #[v] w fun e D=>e=.returned (.bool (rM l))/\Below w.heap.size w D:=by
 obtain⟨g,f,G,rfl,M,r⟩:=h;have C:=OY r;go_enter func155,ntmps155;go_wp2;go_loopw [8] (fun K wr=>∃(k:Nat) (seen:List Bool),k<=l.length/\K=.int .i64 k/\seen.length=5/\OZ wr w.heap.size (seen.map Value.bool).toArray 282/\Hid (rM l=gh l.length (l.drop k) seen)/\Below w.heap.size w wr) (fun i _=>l.length-(intOf i).toNat)
 case atStart=>exact⟨0,[false,false,false,false,false],zv _,rfl,rfl,OZ.new _ _ _,rfl,(by go_grown)⟩
 case round=>
  obtain⟨k,seen,P,rfl,o,m,j,a⟩:=hrel;have A:=a.size;by_cases c:k<l.length
  ·have F:=(a.cell (p:=⟨g,f+k,none⟩) M).trans (C.out k c);have q:Hid ((l[k]<0∨(l.length:Int)<=l[k]∨5<=l[k])->gh l.length (l.drop k) seen=false):=fun h=>I7 c h;have u:Hid (seen.getD l[k].toNat false=true->gh l.length (l.drop k) seen=false):=fun h=>N3 c h;have z:=OY fun(h:¬(l[k]<0∨(l.length:Int)<=l[k]∨5<=l[k])) (I:seen.getD l[k].toNat false=false)=>Fr c h I;generalize l[k]=x at *;by_cases t:x<0
   ·go_wp2;go_ret;exact⟨by rw[j.out,q.out (zf t)];rfl,a⟩
   ·obtain⟨n,rfl⟩:=Int.eq_ofNat_of_zero_le (Int.not_lt.1 t);by_cases J:(l.length:Int)<=(n:Int)
    ·go_wp2;go_ret;exact⟨by rw[j.out,q.out (ze (zf J))];rfl,a⟩
    ·by_cases B:(5:Int)<=(n:Int)
     ·go_wp2;go_ret;exact⟨by rw[j.out,q.out (ze (ze B))];rfl,a⟩
     ·have s:n<5:=by omega
      obtain⟨y,Q⟩:=m.rules;have H:wr.cell? ⟨w.heap.size,n,none⟩=some (.bool (seen.getD n false)):=by
       rw[y];simp[o,s,List.getD_eq_getElem?_getD]
      have d:=m.set n (.bool true);have E:Hid (((seen.map Value.bool).toArray.setIfInBounds n (.bool true))=((seen.set n true).map Value.bool).toArray):=by simp[Hid,List.map_set]
      rw[E.out] at d;simp only[Int.toNat_natCast] at u z;clear y;generalize N:seen.getD n false=b at *;cases b with
      |true=>
       go_wp2;go_ret;exact⟨by rw[j.out,u.out (by trivial)];rfl,a⟩
      |false=>
       go_wp2;go_roundw
       case rel=>exact⟨k+1,seen.set n true,by omega,by go_num,by simpa using o,d,by rw[Hid,j.out,z.out (by omega) (by trivial)],a.setCell (by simp) _⟩
       case measure=>simp[intOf];omega
  ·have L:Hid (gh l.length (l.drop k) seen=true):=by rw[ui (by omega)];rfl
   go_wp2;go_ret;exact⟨by rw[j.out,L.out];rfl,a⟩
def kO(c:zc):Option (List Int)->Bool
 |none=>true
 |some l=>l.length == (zy c).length&&rM l
theorem G1(w:World)(c:zc)(D A y:Value)(o:Option (List Int))(J:Pg lo w D c.head.args)(L:PB lo w A c.body)(K:c.head.args.length+xi c.body<=1000)(t:c.body.length<=1000)(q:jR w y o)(v:(o.getD []).length<=2000000):
  Calls prog 112 #[.agg #[.bool c.head.neg,.string c.head.pred,D,A],y] w fun e G=>e=.returned (.bool (kO c o))/\Below w.heap.size w G:=by
 have C:=OY fun W p=>oy W c _ _ (J.below p) (L.below p) K t;cases o with
 |none=>
  have F:=q;subst F;have k:∀W:World,(binOp .eql 24 (.slice none 0 0) (.slice none 0 0)).run prog W=.ok (.bool true) W:=fun W=>by
   have:=run_equal_slice_nil W 24 3 none 0 0 underlying24;simp[binOp,this]
  go_enter func112,ntmps112;go_wp2;go_ret;exact⟨rfl,(by go_grown)⟩
 |some l=>
  have E:=OY fun W p=>IB W y l (q.below p) v;have B:Hid (kO c (some l)=(l.length == (zy c).length&&rM l)):=rfl;obtain⟨g,f,h,rfl,_,_⟩:=q;have k:∀W:World,(binOp .eql 24 (.slice (some ⟨g,f,none⟩) l.length h) (.slice none 0 0)).run prog W=.ok (.bool false) W:=fun W=>by
   have:=run_equal_slice_nil W 24 3 (some ⟨g,f,none⟩) l.length h underlying24;simp[binOp,this]
  generalize zy c=vs at *;by_cases n:l.length=vs.length
  ·have s:((l.length:Int) != (vs.length:Int))=false:=by rw[n];simp
   have r:=OY n;clear n;go_enter func112,ntmps112;go_wp2_with (first|(go_at_call 148;refine(C.out _ (by exact(by go_grown))).mono ?_;rintro e z ⟨I,rfl,a,j⟩;obtain⟨u,m,rfl⟩:=zq a;have b:Below w.heap.size w z:=(zM (by go_grown) j (zh _));have d:=b.size)|(go_at_call 146;refine(ix _ _ _ vs (by exact(OZ.new _ _ _).rules.1 0) (by exact zE a (by go_grown))).mono ?_;rintro e H ⟨rfl,i⟩;obtain rfl:=i.symm)|(go_at_call 155;refine(E.out _ (by exact(b.alloc d _))).mono ?_;rintro e M ⟨rfl,x⟩))
   go_ret;exact⟨by rw[B.out];simp[r.out],Pc (b.alloc d _) x⟩
  ·have s:((l.length:Int) != (vs.length:Int))=true:=by rw[bne_iff_ne];omega
   go_enter func112,ntmps112;go_wp2_with (first|(go_at_call 148;refine(C.out _ (by exact(by go_grown))).mono ?_;rintro e z ⟨I,rfl,a,j⟩;obtain⟨u,m,rfl⟩:=zq a;have b:Below w.heap.size w z:=(zM (by go_grown) j (zh _));have d:=b.size)|(go_at_call 146;refine(ix _ _ _ vs (by exact(OZ.new _ _ _).rules.1 0) (by exact zE a (by go_grown))).mono ?_;rintro e H ⟨rfl,i⟩;obtain rfl:=i.symm))
   go_ret;exact⟨by rw[B.out];simp[n],b.alloc d _⟩
def fW(cs:List zc):Option (List (Option (List Int)))->Bool
 |none=>true
 |some l=>l.length == cs.length&&(cs.zip l).all fun x=>kO x.1 x.2
theorem I4(cs:List zc)(l:List (Option (List Int)))(h:l.length=cs.length)(k:Nat)(a:k<cs.length):((cs.drop k).zip (l.drop k)).all (fun x=>kO x.1 x.2)=(kO cs[k] (l[k]'(by omega))&&((cs.drop (k+1)).zip (l.drop (k+1))).all fun x=>kO x.1 x.2):=by
 rw[xg a,xg (l:=l) (i:=k) (by omega),List.zip_cons_cons,List.all_cons]
theorem F4(w:World)(cv ov:Value)(cs:List zc)(I:Option (List (Option (List Int))))(hc:PE lo 171 w cv cs)(X:∀c∈cs,vD c)(hl:cs.length<=1000)(ho:dW w ov I)(ad:(I.getD []).length<=2000000)(v:∀o∈I.getD [],(o.getD []).length<=2000000):
  Calls prog 71 #[cv,ov] w fun e h=>e=.returned (.bool (fW cs I))/\Below w.heap.size w h:=by
 obtain⟨ak,ah,rfl⟩:=hc.qw;cases I with
 |none=>
  have h0:ov=.slice none 0 0:=ho;subst h0;have s:∀W:World,(binOp .eql 26 (.slice none 0 0) (.slice none 0 0)).run prog W=.ok (.bool true) W:=fun W=>by
   have:=run_equal_slice_nil W 26 24 none 0 0 underlying26;simp[binOp,this]
  go_enter func71,ntmps71;go_wp2;go_ret;exact⟨rfl,(by go_grown)⟩
 |some l=>
  simp only[uo] at ad v;have HO:=OY ho;have aa:=OY hc;have y:Hid (fW cs (some l)=(l.length == cs.length&&(cs.zip l).all fun x=>kO x.1 x.2)):=rfl;have ab:=OY v;have ac:=OY X;obtain⟨g,f,t,rfl,hg,_⟩:=ho;have s:∀W:World,(binOp .eql 26 (.slice (some ⟨g,f,none⟩) l.length t) (.slice none 0 0)).run prog W=.ok (.bool false) W:=fun W=>by
   have:=run_equal_slice_nil W 26 24 (some ⟨g,f,none⟩) l.length t underlying26;simp[binOp,this]
  clear hc v X;by_cases j:l.length=cs.length
  ·have E:((l.length:Int) != (cs.length:Int))=false:=by rw[j];simp
   have N:=OY j;have aj:l.length<=1000:=by omega
   have Z:Hid (fW cs (some l)=((cs.drop 0).zip (l.drop 0)).all fun x=>kO x.1 x.2):=by rw[Hid,y.out];simp[j]
   clear j y;go_enter func71,ntmps71;go_wp2;clear E s;go_loopw [16] (fun af wr=>∃k:Nat,k<=cs.length/\af=.int .i64 k/\Hid (fW cs (some l)=((cs.drop k).zip (l.drop k)).all fun x=>kO x.1 x.2)/\Below w.heap.size w wr) (fun i _=>cs.length-(intOf i).toNat)
   case atStart=>exact⟨0,zv _,rfl,Z,(by go_grown)⟩
   case round=>
    clear Z;obtain⟨k,hk,rfl,y,a⟩:=hrel;have ai:=a.size;by_cases q:k<cs.length
    ·have L:k<l.length:=by rw[N.out];exact q
     obtain⟨g0,z,n,B,p,rfl,r,C,U,Q,O,G,F⟩:=aa.out.cell k q;obtain⟨S,T⟩:=ac.out cs[k] (zu q);obtain⟨_,_,u,K,_,hu,V⟩:=HO.out.cell k L;simp only[zs,Addr.mk.injEq,and_true] at K;obtain⟨rfl,rfl⟩:=K;have P:=ab.out l[k] (zu L);have D:=OY fun W hW=>G1 W cs[k] _ _ u l[k] (G.below hW) (F.below hW) S T (V.below hW) P;have M:Hid (((cs.drop k).zip (l.drop k)).all (fun x=>kO x.1 x.2)=(kO cs[k] l[k]&&((cs.drop (k+1)).zip (l.drop (k+1))).all fun x=>kO x.1 x.2)):=I4 cs l N.out k q;have e0:=zl a r C;have e1:=zl a r U;have e2:=zl a r Q;have e3:=zl a r O;have eu:=zl a hg hu;have ag:g0<wr.heap.size:=by omega
     have J:g<wr.heap.size:=by omega
     clear C U Q O hu V G F S T P;generalize cs[k]=c at *;generalize kO c l[k]=b at *;have H:=OZ.new wr #[.bool c.head.neg,.string c.head.pred,.slice z c.head.args.length n,.slice B c.body.length p] 171;cases b with
     |true=>
      go_wp2;go_region_held3 (fun h=>h.cell? ⟨wr.heap.size,0,none⟩=some (.bool c.head.neg)/\h.cell? ⟨wr.heap.size,1,none⟩=some (.string c.head.pred)/\h.cell? ⟨wr.heap.size,2,none⟩=some (.slice z c.head.args.length n)/\h.cell? ⟨wr.heap.size,3,none⟩=some (.slice B c.body.length p)/\h.cell? ⟨g,f+k,none⟩=some u) (first|go_keep|(go_split_ands;refine⟨?_,?_,?_,?_,?_⟩<;>go_keep)) (first|(go_at_call 112;refine(D.out _ (by exact(zM a (by go_grown) (zh _)))).mono ?_;rintro e w4 ⟨rfl,d⟩;have m:Below wr.heap.size wr w4:=(zM (by go_grown) d (zh _));have A:=H.below (by first|exact d|exact(zI (zo _ _) _).trans d);obtain⟨Y,R⟩:=A.rules;have ae:=(zl m J eu)))
      go_wp2;go_roundw
      case rel=>exact⟨k+1,by omega,by go_num,by rw[Hid,y.out,M.out];simp,Pc a m⟩
      case measure=>simp[intOf];omega
     |false=>
      go_wp2;go_region_held3 (fun h=>h.cell? ⟨wr.heap.size,0,none⟩=some (.bool c.head.neg)/\h.cell? ⟨wr.heap.size,1,none⟩=some (.string c.head.pred)/\h.cell? ⟨wr.heap.size,2,none⟩=some (.slice z c.head.args.length n)/\h.cell? ⟨wr.heap.size,3,none⟩=some (.slice B c.body.length p)/\h.cell? ⟨g,f+k,none⟩=some u) (first|go_keep|(go_split_ands;refine⟨?_,?_,?_,?_,?_⟩<;>go_keep)) (first|(go_at_call 112;refine(D.out _ (by exact(zM a (by go_grown) (zh _)))).mono ?_;rintro e w4 ⟨rfl,d⟩;have m:Below wr.heap.size wr w4:=(zM (by go_grown) d (zh _));have A:=H.below (by first|exact d|exact(zI (zo _ _) _).trans d);obtain⟨Y,R⟩:=A.rules;have ae:=(zl m J eu)))
      go_wp2;go_ret;exact⟨by rw[y.out,M.out];rfl,Pc a m⟩
    ·have HZ:Hid (fW cs (some l)=true):=by rw[Hid,y.out,ui (by omega)];rfl
     go_wp2;go_ret;exact⟨by rw[HZ.out];rfl,a⟩
  ·have E:((l.length:Int) != (cs.length:Int))=true:=by rw[bne_iff_ne];omega
   have Z:Hid (fW cs (some l)=false):=by rw[Hid,y.out];simp[j]
   go_enter func71,ntmps71;go_wp2;go_ret;exact⟨by rw[Z.out];rfl,(by go_grown)⟩
end
end Go.Proofs.YteampbddflhngaaGreat
