import Derived.Test.YteampbddflhngaaGreatQ01
namespace Go.Proofs.YteampbddflhngaaGreat
set_option linter.all false
set_option maxRecDepth 100000
set_option maxHeartbeats 4000000
open Go.RowKit
section
open Go.Proofs.Tryz
variable {lo:Nat}
def Si(ns:κ)(x:ByteArray):Nat->Nat->Nat->Nat
 |0,l,_=>l
 |n+1,l,h=>if l<h then(if RX (ns.getD (l+(h-l) / 2) ByteArray.empty) x then Si ns x n (l+(h-l) / 2+1) h else Si ns x n l (l+(h-l) / 2)) else l
def uT(ns:κ)(x:ByteArray):Nat:=Si ns x (ns.length+1) 0 ns.length
def me(lo:Nat)(w:World)(a:Nat)(ns:κ):Prop:=lo<=a/\∃v,Rz w a #[v] 141/\R7 lo w v ns
def me.below{w w':World}{a:Nat}{ns:κ}(h:me lo w a ns)(b:μ w w'):me lo w' a ns:=by
 obtain⟨d,v,e,c⟩:=h;exact⟨d,v,e.below b,c.below b⟩
def EP(w:World)(y:Nat)(ns:κ)(x:ByteArray)(h:me lo w y ns)(O:ns.length<=1000):
  Calls prog 168 #[(π y),.string x] w λe C=>e=ε (ι (uT ns x:Nat))/\∃m,C=w.drewN m:=by
 obtain⟨_,v,j,z⟩:=h;obtain⟨N,D,rfl⟩:=z.qy;obtain⟨G,K⟩:=j.rules;go_enter func168,ntmps168;go_wp2;go_quiet (fail)
 have t:μ w (w.drewN nq):=zI (zp _ _) _;have c:=j.below t;have s:=z.below t;have r:Hid (∃m,w.drewN nq=w.drewN m):=⟨nq,rfl⟩;generalize w.drewN nq=E at *;obtain⟨G,K⟩:=c.rules;go_wp2;go_loopg [5,6] (ns.length+1) (λk H I wr=>∃l h:Nat,H=ι l/\I=ι h/\h<=ns.length/\l<=ns.length/\h-l<k/\Hid (uT ns x=Si ns x k l h)/\wr=E)
 case atStart=>exact⟨0,ns.length,rfl,rfl,by omega,by omega,by omega,rfl,rfl⟩
 obtain⟨l,h,rfl,rfl,B,o,L,u,rfl⟩:=hrel;rcases gk with _|m;omega;by_cases b:l<h
 .obtain⟨a,i⟩:∃a,a=l+(h-l) / 2:=⟨_,rfl⟩;have F:l<=a:=by omega
  have J:a<h:=by omega
  have A:(l:Int)+((h:Int)-(l:Int)).tdiv 2=(a:Int):=by
   rw[Int.tdiv_eq_ediv_of_nonneg (by omega)];omega
  have f:a<ns.length:=by omega
  have q:=u.out;unfold Si at q;rw[zb b,←i,show ns.getD a ByteArray.empty=ns[a] from by simp[List.getD_eq_getElem?_getD,f]] at q;obtain⟨g,rfl,M,p⟩:=s.cell a f;clear i;cases n:RX ns[a] x
  .rw[n,za (by simp)] at q;have d:=Ry q;unfold RX at n;go_wp2;go_roundg m
   case measure=>omega
   exact⟨l,a,rfl,rfl,by omega,o,by omega,d,rfl⟩
  rw[n,zb rfl] at q;have d:=Ry q;unfold RX at n;go_wp2;go_roundg m
  case measure=>omega
  exact⟨a+1,h,by go_num,rfl,B,by omega,by omega,d,rfl⟩
 have q:=u.out;unfold Si at q;rw[za b] at q;have d:=Ry q;go_wp2;go_ret;exact⟨by rw[d.out];rfl,r.out⟩
def uy(ns:κ)(x:ByteArray):Option Nat:=if uT ns x<ns.length/\ns.getD (uT ns x) ByteArray.empty=x then some (uT ns x) else none
def J8(w:World)(s:Nat)(ns:κ)(x:ByteArray)(h:me lo w s ns)(D:ns.length<=1000):
  Calls prog 129 #[(π s),.string x] w λe l=>e=ε (.tuple #[ι (((uy ns x).getD 0:Nat):Int),.bool (uy ns x).isSome])/\∃m,l=w.drewN m:=by
 have o:=Ry (EP w s ns x h D);obtain⟨_,v,f,t⟩:=h;obtain⟨F,B,rfl⟩:=t.qy;have d:Hid (uy ns x=if uT ns x<ns.length/\ns.getD (uT ns x) ByteArray.empty=x then some (uT ns x) else none):=rfl;generalize uT ns x=c at *;by_cases j:c<ns.length
 .have C:ns.getD c ByteArray.empty=ns[c]:=by simp[List.getD_eq_getElem?_getD,j]
  rw[C] at d;by_cases n:ns[c]=x
  .rw[zb ⟨j,n⟩] at d;obtain⟨g,rfl,i,b⟩:=t.cell c j;go_enter func129,ntmps129;go_wp2_with (go_at_call 168;refine o.out.mono ?_;rintro r l ⟨rfl,m,rfl⟩;have a:=f.below (zI (zp _ _) m);obtain⟨y,z,k⟩:=a.boxed;have A:=((zI (zp w.heap.size w) m).cell (p:=⟨g,c,none⟩) i).trans b;have u:g<(w.drewN m).heap.size:=i)
   go_ret2
   exact⟨by rw[d.out];rfl,m,rfl⟩
  rw[za (λq=>n q.2)] at d;obtain⟨g,rfl,i,b⟩:=t.cell c j;have E:=qb n;go_enter func129,ntmps129;go_wp2_with (go_at_call 168;refine o.out.mono ?_;rintro r l ⟨rfl,m,rfl⟩;have a:=f.below (zI (zp _ _) m);obtain⟨y,z,k⟩:=a.boxed;have A:=((zI (zp w.heap.size w) m).cell (p:=⟨g,c,none⟩) i).trans b;have u:g<(w.drewN m).heap.size:=i)
  go_ret2
  exact⟨by rw[d.out];rfl,m,rfl⟩
 rw[za (λq=>j q.1)] at d;go_enter func129,ntmps129;go_wp2_with (go_at_call 168;refine o.out.mono ?_;rintro r l ⟨rfl,m,rfl⟩;have a:=f.below (zI (zp _ _) m);obtain⟨y,z,k⟩:=a.boxed)
 go_ret2
 exact⟨by rw[d.out];rfl,m,rfl⟩
def Gx(w:World)(b:Nat)(ns:κ)(h:me lo w b ns):
  Calls prog 114 #[(π b)] w λe g=>e=ε (ι ns.length)/\g=w:=by
 obtain⟨_,v,a,c⟩:=h;obtain⟨j,d,rfl⟩:=c.qy;obtain⟨k,i,f⟩:=a.boxed;clear c;go_enter func114,ntmps114;go_wp2;go_ret;exact⟨rfl,rfl⟩
def j4(lo:Nat)(w:World)(a:Nat)(v:Value)(ns:κ):Prop:=lo<=a/\Rz w a #[v] 141/\R7 lo w v ns
def j4.tab{w:World}{a:Nat}{v:Value}{ns:κ}(h:j4 lo w a v ns):me lo w a ns:=⟨h.1,v,h.2.1,h.2.2⟩
def j4.below{w w':World}{a:Nat}{v:Value}{ns:κ}(h:j4 lo w a v ns)(b:μ w w'):j4 lo w' a v ns:=⟨h.1,h.2.1.below b,h.2.2.below b⟩
def lM(ns:κ)(x:ByteArray):κ:=if uT ns x<ns.length/\ns.getD (uT ns x) ByteArray.empty=x then ns else ns.take (uT ns x)++x::ns.drop (uT ns x)
def Ad(lo:Nat)(w:World)(b:Nat)(v:Value)(ns:κ)(e:Ending)(w':World):Prop:=e=ε (.tuple #[])/\∃a,j4 lo w' b a ns/\zc (b::v.ownBlock.toList) w w'/\(a.ownBlock=v.ownBlock∨∃g,a.ownBlock=some g/\w.heap.size<=g)
def Ql(ns:κ)(x:ByteArray)(k:Nat)(b:k<ns.length):(((ns.take (k+1)++x::ns.drop (k+1)).set (k+1) ns[k]).set k x)=ns.take k++x::ns.drop k:=by
 have a:(ns.take k).length=k:=by simp;omega
 rw[yP b,xh b,kz,fm _ _ (by omega),a,show k+1-k=1 from by omega,fm _ _ (by omega),a,jv];rfl
def ME(w:World)(n:Nat)(v:Value)(ns:κ)(x:ByteArray)(h:j4 lo w n v ns)(hl:ns.length<=900):
  Calls prog 157 #[(π n),.string x] w λe w'=>Ad lo w n v (lM ns x) e w':=by
 have HP:=Ry (EP w n ns x h.tab (by omega));have HH:=Ry h;obtain⟨ai,R,hs⟩:=h;obtain⟨X,l,rfl⟩:=hs.qy;have HE:Hid (lM ns x=if uT ns x<ns.length/\ns.getD (uT ns x) ByteArray.empty=x then ns else ns.take (uT ns x)++x::ns.drop (uT ns x)):=rfl;generalize uT ns x=f at *;by_cases Q:f<ns.length/\ns.getD f ByteArray.empty=x
 .rw[zb Q] at HE;obtain⟨P,h2⟩:=Q;rw[show ns.getD f ByteArray.empty=ns[f] from by simp[List.getD_eq_getElem?_getD,P]] at h2;obtain⟨g,rfl,T,B⟩:=hs.cell f P;have ar:=jF h2;clear h2;generalize ns[f]=y at *;go_enter func157,ntmps157;go_wp2_with (go_at_call 168;refine HP.out.mono ?_;rintro r w' ⟨rfl,m,rfl⟩;have d:=R.below (zI (zp _ _) m);obtain⟨hc,hf,F⟩:=d.boxed;have hx:=((zI (zp w.heap.size w) m).cell (p:=⟨g,f,none⟩) T).trans B;have az:g<(w.drewN m).heap.size:=T)
  (try simp only[Exit.inBlock,Exit.then]);refine zO (results_none rfl _ _ _) rfl ?_
  exact⟨rfl,_,by rw[HE.out];exact HH.out.below (zI (zp _ _) m),zc.of (zI (zp _ _) m),zh rfl⟩
 rw[za Q] at HE;obtain⟨i0,hi,al,ah,aj⟩:=info_parts QN;have ag:Hid (∀m,f<ns.length->∃(y:ByteArray) (g:Nat),X=some ⟨g,0,none⟩/\g<(w.drewN m).heap.size/\(w.drewN m).cell? ⟨g,f,none⟩=some (.string y)/\(y.toList == x.toList)=false):=λm P=>by
  obtain⟨g,e,T,B⟩:=hs.cell f P;have hn:ns[f]≠x:=λq=>Q ⟨P,by rw[←q];simp[List.getD_eq_getElem?_getD,P]⟩;exact⟨ns[f],g,e,T,((zI (zp w.heap.size w) m).cell (p:=⟨g,f,none⟩) T).trans B,qb hn⟩
 have av:lo<=w.heap.size:=by have:=R.lt;omega
 by_cases P:f<ns.length
 .obtain⟨yy,gg,Z,_⟩:=ag.out 0 P;subst Z;go_enter func157,ntmps157;go_wp2_with (first|(go_at_call 168;refine HP.out.mono ?_;rintro r w' ⟨rfl,m,rfl⟩;have t:μ w (w.drewN m):=(zI (zp _ _) m);have d:=R.below t;obtain⟨hc,hf,F⟩:=d.boxed;have L:=hs.below t;obtain⟨y,g,Z,T,hx,ar⟩:=ag.out m P;simp only[zr,Addr.mk.injEq] at Z;obtain⟨rfl,_⟩:=Z)|(at_builtin;refine ko (w.drewN m) _ [.string x] _ rfl (.tmp 31) (.tmp 33) 30 rfl lo 9 i0 _ 1 16 underlying30 hi al ah aj rfl (by decide) (.slice (some ⟨gg,0,none⟩) ns.length l) ns.length (ns.map Value.string) rfl L (zp _ _) _ _ rfl (by simp) rfl (by simp[Value.oneCell']) (by omega) (by omega) (by omega) ?_;intro v' S o C s;obtain⟨am,a,rfl⟩:=zq o;have c:=d.save C (qK L d (by decide));obtain⟨U,Y,I⟩:=c.boxed))
  obtain⟨b,ad,N,ab,ao,_⟩:=yw o (by omega);simp only[Value.slice.injEq] at N;obtain⟨rfl,_,O⟩:=N;clear O;have H:b≠n:=vD o c (by decide) rfl;have z:=c.set 0 (.slice (some ⟨b,0,none⟩) (ns.length+1) a);simp at z;have V:R7 lo (S.setCell ⟨n,0,none⟩ (.slice (some ⟨b,0,none⟩) (ns.length+1) a)) (.slice (some ⟨b,0,none⟩) (ns.length+1) a) (ns.take ns.length++x::ns.drop ns.length):=by
   have q:=xF o ((RD.refl n S).setCell 0 (.slice (some ⟨b,0,none⟩) (ns.length+1) a)) c (by decide);unfold R7;simpa using q
  have J:∀y∈[b],y∈n::(Value.slice (some ⟨gg,0,none⟩) ns.length l).ownBlock.toList∨w.heap.size<=y:=λy A=>by
   simp only[xC] at A;subst A;rcases s with q|⟨g,q,T⟩;left;simp only[zy];right;rw[←q];simp[Value.ownBlock];right;simp only[Value.ownBlock,zr] at q;have:=t.size;omega
  have K:zc (n::(Value.slice (some ⟨gg,0,none⟩) ns.length l).ownBlock.toList) w (S.setCell ⟨n,0,none⟩ (.slice (some ⟨b,0,none⟩) (ns.length+1) a)):=((zc.of (M:=n::(Value.slice (some ⟨gg,0,none⟩) ns.length l).ownBlock.toList) t).newer C (λy A=>zh (pF _ A))).newer (zc.set _ _ _ _) (λy A=>zh (by simp at A;simp[A]));have G:(Value.slice (some ⟨b,0,none⟩) (ns.length+1) a).ownBlock=(Value.slice (some ⟨gg,0,none⟩) ns.length l).ownBlock∨∃g,(Value.slice (some ⟨b,0,none⟩) (ns.length+1) a).ownBlock=some g/\w.heap.size<=g:=s.imp id (fun⟨g,q1,q2⟩=>⟨g,q1,by have:=t.size;omega⟩);clear hc hf F U Y I C s o;generalize S.setCell ⟨n,0,none⟩ (.slice (some ⟨b,0,none⟩) (ns.length+1) a)=w5 at *;generalize decide (f<ns.length)=bq;go_loopw [5] (λv5 wr=>∃k:Nat,v5=ι k/\k<=ns.length/\(f<=k∨k=ns.length)/\Rz wr n #[.slice (some ⟨b,0,none⟩) (ns.length+1) a] 141/\R7 lo wr (.slice (some ⟨b,0,none⟩) (ns.length+1) a) (ns.take k++x::ns.drop k)/\zc (n::(Value.slice (some ⟨gg,0,none⟩) ns.length l).ownBlock.toList) w wr) (λi _=>(intOf i).toNat);exact⟨ns.length,by go_num,zf _,ze rfl,z,V,K⟩;obtain⟨k,rfl,hk,ap,E,u,D⟩:=hrel;obtain⟨hc,hf,F⟩:=E.boxed;by_cases af:f<k
  .obtain⟨j,rfl⟩:∃j,k=j+1:=⟨k-1,by omega⟩;have hj:j<ns.length:=by omega
   have ac:(ns.take (j+1)++x::ns.drop (j+1)).length=ns.length+1:=by simp;omega
   have au:b<wr.heap.size:=yA u rfl;have ax:=uH u;obtain⟨_,e0,_,an⟩:=u.cell j (by omega);obtain⟨_,Z,_,ay⟩:=u.cell (j+1) (by omega);simp only[zr,Addr.mk.injEq] at e0 Z;obtain⟨rfl,_⟩:=e0;obtain⟨rfl,_⟩:=Z;have ej:(ns.take (j+1)++x::ns.drop (j+1))[j]'(by omega)=ns[j]:=by
    rw[uD (by simp;omega)];simp
   rw[ej] at an;have q1:=uj u (j+1) (by simp;omega) (.string ns[j]);have q2:=uj q1 j (by simp;omega) (.string x);have el:(((ns.take (j+1)++x::ns.drop (j+1)).map Value.string).set (j+1) (.string ns[j])).set j (.string x)=(ns.take j++x::ns.drop j).map Value.string:=by
    rw[←gA,←gA,Ql ns x j hj]
   rw[el] at q2;have W:(ns.take j++x::ns.drop j).length=ns.length+1:=by simp;omega
   have aq:R7 lo ((wr.setCell ⟨b,j+1,none⟩ (.string ns[j])).setCell ⟨b,j,none⟩ (.string x)) (.slice (some ⟨b,0,none⟩) (ns.length+1) a) (ns.take j++x::ns.drop j):=by
    unfold R7;rw[W];rw[ac] at q2;exact q2
   have ae:=(E.set_ne (Ne.symm H) (j+1) (.string ns[j])).set_ne (Ne.symm H) j (.string x);have ak:=(D.newer (zc.set wr b (j+1) (.string ns[j])) J).newer (zc.set _ b j (.string x)) J;generalize (ns.take (j+1)++x::ns.drop (j+1))[j+1]'(by omega)=zz at *;clear ej q1 q2 el;generalize ns[j]=yj at *;have aw:(j:Int)<(ns.length:Int):=by omega
   go_wp2;go_region
   all_goals
    go_wp2;go_roundw;exact⟨j,by go_num,by omega,zh (by omega),ae.below (zp _ _).drew,aq.below (zp _ _).drew,ak.newer (zc.of (M:=[]) (zp _ _).drew) (by simp)⟩;simp[intOf]
  have aa:Hid (ns.take k++x::ns.drop k=ns.take f++x::ns.drop f):=by
   rw[Hid];by_cases e:k=f;rw[e];obtain rfl:k=ns.length:=by omega
   rw[xk (zf _),wl (zf _),xk (by omega),wl (by omega)]
  go_wp2;go_end0
  exact⟨rfl,_,by rw[HE.out,←aa.out];exact⟨ai,E,u⟩,D,G⟩
 have a0:ns.length<=f:=by omega
 go_enter func157,ntmps157;go_wp2_with (first|(go_at_call 168;refine HP.out.mono ?_;rintro r w' ⟨rfl,m,rfl⟩;have t:μ w (w.drewN m):=(zI (zp _ _) m);have d:=R.below t;obtain⟨hc,hf,F⟩:=d.boxed;have L:=hs.below t)|(at_builtin;refine ko (w.drewN m) _ [.string x] _ rfl (.tmp 31) (.tmp 33) 30 rfl lo 9 i0 _ 1 16 underlying30 hi al ah aj rfl (by decide) (.slice X ns.length l) ns.length (ns.map Value.string) rfl L (zp _ _) _ _ rfl (by simp) rfl (by simp[Value.oneCell']) (by omega) (by omega) (by omega) ?_;intro v' S o C s;obtain⟨am,a,rfl⟩:=zq o;have c:=d.save C (qK L d (by decide));obtain⟨U,Y,I⟩:=c.boxed))
 obtain⟨b,ad,N,ab,ao,_⟩:=yw o (by omega);simp only[Value.slice.injEq] at N;obtain⟨rfl,_,O⟩:=N;clear O;have H:b≠n:=vD o c (by decide) rfl;have z:=c.set 0 (.slice (some ⟨b,0,none⟩) (ns.length+1) a);simp at z;have V:R7 lo (S.setCell ⟨n,0,none⟩ (.slice (some ⟨b,0,none⟩) (ns.length+1) a)) (.slice (some ⟨b,0,none⟩) (ns.length+1) a) (ns.take ns.length++x::ns.drop ns.length):=by
  have q:=xF o ((RD.refl n S).setCell 0 (.slice (some ⟨b,0,none⟩) (ns.length+1) a)) c (by decide);unfold R7;simpa using q
 have J:∀y∈[b],y∈n::(Value.slice X ns.length l).ownBlock.toList∨w.heap.size<=y:=λy A=>by
  simp only[xC] at A;subst A;rcases s with q|⟨g,q,T⟩;left;simp only[zy];right;rw[←q];simp[Value.ownBlock];right;simp only[Value.ownBlock,zr] at q;have:=t.size;omega
 have K:zc (n::(Value.slice X ns.length l).ownBlock.toList) w (S.setCell ⟨n,0,none⟩ (.slice (some ⟨b,0,none⟩) (ns.length+1) a)):=((zc.of (M:=n::(Value.slice X ns.length l).ownBlock.toList) t).newer C (λy A=>zh (pF _ A))).newer (zc.set _ _ _ _) (λy A=>zh (by simp at A;simp[A]));have G:(Value.slice (some ⟨b,0,none⟩) (ns.length+1) a).ownBlock=(Value.slice X ns.length l).ownBlock∨∃g,(Value.slice (some ⟨b,0,none⟩) (ns.length+1) a).ownBlock=some g/\w.heap.size<=g:=s.imp id (fun⟨g,q1,q2⟩=>⟨g,q1,by have:=t.size;omega⟩);clear hc hf F U Y I C s o;generalize S.setCell ⟨n,0,none⟩ (.slice (some ⟨b,0,none⟩) (ns.length+1) a)=w5 at *;generalize decide (f<ns.length)=bq;go_loopw [5] (λv5 wr=>∃k:Nat,v5=ι k/\k<=ns.length/\(f<=k∨k=ns.length)/\Rz wr n #[.slice (some ⟨b,0,none⟩) (ns.length+1) a] 141/\R7 lo wr (.slice (some ⟨b,0,none⟩) (ns.length+1) a) (ns.take k++x::ns.drop k)/\zc (n::(Value.slice X ns.length l).ownBlock.toList) w wr) (λi _=>(intOf i).toNat);exact⟨ns.length,by go_num,zf _,ze rfl,z,V,K⟩;obtain⟨k,rfl,hk,ap,E,u,D⟩:=hrel;obtain⟨hc,hf,F⟩:=E.boxed;by_cases af:f<k;exact z9 af (by omega);have aa:Hid (ns.take k++x::ns.drop k=ns.take f++x::ns.drop f):=by
  rw[Hid];by_cases e:k=f;rw[e];obtain rfl:k=ns.length:=by omega
  rw[xk (zf _),wl (zf _),xk (by omega),wl (by omega)]
 go_wp2;go_end0
 exact⟨rfl,_,by rw[HE.out,←aa.out];exact⟨ai,E,u⟩,D,G⟩
end
section
open Go.Proofs.Tryz
variable {lo:Nat}{cb:Nat}
def qr(ns:κ)(t:ByteArray):κ:=if zQ t then ns else lM ns t
def uI(ns:κ)(l:zk):κ:=l.args.foldl qr ns
def vV(ns:κ)(c:zd):κ:=c.body.foldl uI (uI ns c.head)
def zo(cs:List zd):κ:=cs.foldl vV []
def Hq(ns:κ)(t:ByteArray):(qr ns t).length<=ns.length+1:=by
 unfold qr;split;omega;unfold lM;split;omega;simp only[yC,xr,qG,List.length_drop];omega
def sY(ts:κ):∀a:κ,(ts.foldl qr a).length<=a.length+ts.length:=by
 induction ts with
 |nil=>intro a;simp
 |cons t ts b=>intro a;have:=b (qr a t);have:=Hq a t;simp only[uu,xr];omega
def kC(l:zk):Nat:=l.args.length
def gP(a:List zk):Nat:=(a.map kC).sum
def fM(cs:List zd):Nat:=(cs.map λc=>kC c.head+gP c.body).sum
def Ds(b:List zk):∀a:κ,(b.foldl uI a).length<=a.length+gP b:=by
 induction b with
 |nil=>intro a;simp[gP]
 |cons l b c=>intro a;have:=c (uI a l);have:=sY l.args a;simp only[uu,gP,xZ,vN,kC] at *;unfold uI at *;omega
def eE(cs:List zd):∀a:κ,(cs.foldl vV a).length<=a.length+fM cs:=by
 induction cs with
 |nil=>intro a;simp[fM]
 |cons c cs b=>intro a;have:=b (vV a c);have:=Ds c.body (uI a c.head);have:=sY c.head.args a;simp only[uu,fM,xZ,vN] at *;unfold vV kC at *;unfold uI at *;omega
def OT(a:List zk)(k:Nat)(b:k<a.length):gP (a.take k)+kC a[k]<=gP a:=by
 have e:a=a.take k++a[k]::a.drop (k+1):=by rw[←xh b,jx]
 conv=>rhs;rw[e]
 simp only[gP,vg,xZ,List.sum_append,vN];omega
def MV(cs:List zd)(k:Nat)(a:k<cs.length):fM (cs.take k)+(kC cs[k].head+gP cs[k].body)<=fM cs:=by
 have e:cs=cs.take k++cs[k]::cs.drop (k+1):=by rw[←xh a,jx]
 conv=>rhs;rw[e]
 simp only[fM,vg,xZ,List.sum_append,vN];omega
def l8(cb:Nat)(w w':World):Prop:=∀b c t,b≠cb->9≠t->Rz w b c t->Rz w' b c t
def l8.of{w w':World}(h:μ w w'):l8 cb w w':=λ_ _ _ _ _ q=>q.below h
def l8.trans{a b c:World}(h:l8 cb a b)(k:l8 cb b c):l8 cb a c:=λ_ _ _ n m q=>k _ _ _ n m (h _ _ _ n m q)
def Ad.next{B:Nat}{j w w':World}{v:Value}{ns d:κ}{e:Ending}(a:j4 B w cb v ns)(n:Below B j w)(h:Ad B w cb v d e w'):e=ε (.tuple #[])/\∃i,j4 B w' cb i d/\Below B j w'/\l8 cb w w':=by
 obtain⟨rfl,i,o,k,p⟩:=h;refine⟨rfl,i,o,n.trans (k.below (λx g=>?_) ?_),λb c t l m q=>q.save k λf=>?_⟩;simp only[zy] at g;rcases g with rfl|g;exact a.1;exact yX a.2.2 (xb g);have:=a.1;have:=a.2.1.lt;omega;simp only[zy] at f;rcases f with rfl|f;exact l rfl;exact vD a.2.2 q m (xb f) rfl
def PX(c w:World)(cb:Nat)(v:Value)(ns:κ)(l:zk)(J:Value)(hs:R7 lo c J l.args)(I:μ c w)(h:j4 c.heap.size w cb v ns)(L:ns.length+kC l<=900):
  Calls prog 113 #[(π cb),.agg #[.bool l.neg,.string l.pred,J]] w λe f=>e=ε (.tuple #[])/\∃o,j4 c.heap.size f cb o (uI ns l)/\μ c f/\l8 cb w f:=by
 obtain⟨ao,U,rfl⟩:=hs.qy;have O:=Ry fun(W:World) (v:Value) (ns:κ) (x:ByteArray) (a:j4 c.heap.size W cb v ns) (b:ns.length<=900)=>ME W cb v ns x a b;have X:Hid (uI ns l=l.args.foldl qr ns):=rfl;have Y:=Ry h;have T:=I.size;have V:l.args.length<=900:=by unfold kC at L;omega
 have q:Hid (∀k,k<l.args.length->((l.args.take k).foldl qr ns).length<=900):=λk N=>by
  have:=sY (l.args.take k) ns;simp only[qG] at this;unfold kC at L;omega
 generalize l.args=j at *;go_enter func113,ntmps113;go_wp2;go_loopw [9] (λR wr=>∃(k:Nat) (o:Value),k<=j.length/\R=ι k/\Hid (j4 c.heap.size wr cb o ((j.take k).foldl qr ns))/\μ c wr/\Hid (l8 cb w wr)) (λi _=>j.length-(intOf i).toNat);exact⟨0,v,zv _,rfl,Y.out.below (by go_grown),I.alloc T _,l8.of (by go_grown)⟩;obtain⟨k,o,N,rfl,s,d,H⟩:=hrel;have K:=d.size;by_cases p:k<j.length
 .obtain⟨g,rfl,P,n⟩:=hs.cell k p;have S:=zl d P n;have M:Hid ((j.take (k+1)).foldl qr ns=qr ((j.take k).foldl qr ns) j[k]):=by rw[Hid,yP p,jr];rfl
  have u:=q.out k p;have z:Hid (∀a x,qr a x=if zQ x then a else lM a x):=λ_ _=>rfl;generalize (j.take k).foldl qr ns=r at *;generalize j[k]=x at *;cases B:zQ x
  .have G:Hid (∀W,Calls prog 156 #[.string x] W λe f=>e=ε (.bool false)/\f=W):=λW=>by rw[←B];exact fW x W
   have D:Hid (qr r x=lM r x):=by rw[Hid,z.out,B];rfl
   go_wp2_with (first|(go_at_call 156;refine(G.out _).mono ?_;rintro e f ⟨rfl,m⟩;obtain rfl:=m.symm)|(go_at_call 157;refine(O.out wr o r x s.out u).mono ?_;intro e Z A;obtain⟨rfl,Q,y,F,t⟩:=A.next s.out d;have C:=Ry (H.out.trans t);clear t;have E:=Ry y;clear A y))
   go_roundw;exact⟨k+1,Q,by omega,by go_num,by rw[M.out,D.out];exact E.out,F,C⟩;simp[intOf];omega
  have G:Hid (∀W,Calls prog 156 #[.string x] W λe f=>e=ε (.bool true)/\f=W):=λW=>by rw[←B];exact fW x W
  have D:Hid (qr r x=r):=by rw[Hid,z.out,B];rfl
  go_wp2_with (go_at_call 156;refine(G.out _).mono ?_;rintro e f ⟨rfl,m⟩;obtain rfl:=m.symm)
  go_roundw;exact⟨k+1,o,by omega,by go_num,by rw[M.out,D.out];exact s.out,d,H⟩;simp[intOf];omega
 rw[xk (by omega)] at s;go_wp2;go_end0
 exact⟨rfl,o,by rw[X.out];exact s.out,d,H.out⟩
def BR(cs:List zd):Prop:=fM cs<=900/\cs.length<=1000/\∀c∈cs,c.body.length<=1000
def Pd(w:World)(v:Value)(cs:List zd)(h:Se lo 171 w v cs)(hf:BR cs):
  Calls prog 72 #[v] w λe w'=>∃r,e=ε (.agg #[r])/\R7 w.heap.size w' r (zo cs)/\μ w w':=by
 obtain⟨ao,aK,rfl⟩:=h.qy;obtain⟨aH,aJ,an⟩:=hf;have HA:=Ry fun(W:World) (v:Value) (ns:κ) (l:zk) (va:Value) (a:R7 lo w va l.args) (b:μ w W) (c:j4 w.heap.size W (w.heap.size+1) v ns) (d:ns.length+kC l<=900)=>PX w W _ v ns l va a b c d;have HE:Hid (zo cs=cs.foldl vV []):=rfl;have HH:=Ry h;have P:Hid (∀k (hk:k<cs.length),((cs.take k).foldl vV []).length+kC cs[k].head+gP cs[k].body<=900):=λk hk=>by
  have:=eE (cs.take k) [];have:=MV cs k hk;simp only[g5] at *;omega
 have am:=(Rz.new w #[ν] 141).below ((zp _ _).alloc (zf _) (.cells #[ν] 141));have K:=Rz.new (w.alloc (.cells #[ν] 141)) #[ν] 141;have Z:μ w ((w.alloc (.cells #[ν] 141)).alloc (.cells #[ν] 141)):=(by go_grown);simp only[World.size_alloc] at K;go_enter func72,ntmps72;go_wp2;generalize ((w.alloc (.cells #[ν] 141)).alloc (.cells #[ν] 141))=wA at *;go_loopw [10] (λa0 wr=>∃(k:Nat) (r:Value),k<=cs.length/\a0=ι k/\Hid (j4 w.heap.size wr (w.heap.size+1) r ((cs.take k).foldl vV []))/\Rz wr w.heap.size #[ν] 141/\μ w wr) (λi _=>cs.length-(intOf i).toNat);exact⟨0,_,zv _,rfl,⟨by omega,K,R7.nil _⟩,am,Z⟩;obtain⟨k,r,hk,rfl,R,o,f⟩:=hrel;have a5:=f.size;by_cases q:k<cs.length
 .obtain⟨g,ab,G,aw,L,u,X,q0,q1,q2,q3,aj,Q⟩:=HH.out.cell k q;subst u;have aa:=zl f X q0;have ay:=zl f X q1;have ak:=zl f X q2;have ar:=zl f X q3;have aM:g<wr.heap.size:=by omega
  have HS:Hid ((cs.take (k+1)).foldl vV []=vV ((cs.take k).foldl vV []) cs[k]):=by rw[Hid,yP q,jr];rfl
  have H:=P.out k q;have av:=an _ (zt q);have a1:Hid (∀a c,vV a c=c.body.foldl uI (uI a c.head)):=λ_ _=>rfl;clear q0 q1 q2 q3;generalize (cs.take k).foldl vV []=V at *;generalize cs[k]=c at *;have ac:=Ry λW a b=>HA.out W r V c.head _ aj b a (by omega);have N:=(Rz.new wr #[.bool c.head.neg,.string c.head.pred,.slice ab c.head.args.length G,.slice aw c.body.length L] 171);go_upto_region 6 with (first|(go_at_call 113;refine(ac.out _ (R.out.below (by go_grown)) (zM f (by go_grown) (zf _))).mono ?_;rintro e w2 ⟨rfl,v2,I,M,B⟩))
  have a8:=R.out.2.1.lt;have S:=B _ _ _ (by omega) (by decide) N;have F:=B _ _ _ (by omega) (by decide) (o.below zP);obtain⟨aq,ae,af⟩:=S.boxed;have aN:=M.size;have T:=Ry I;have C:Hid ((uI V c.head).length+gP c.body<=900):=by
   have:=sY c.head.args V;unfold kC at H;unfold Hid uI;omega
  clear B N I aa ay ak ar;go_wp2;clear aq ae af;obtain⟨m,y⟩:∃m,m=c.body:=⟨_,rfl⟩;have ad:=Ry y;rw[←y] at Q av C ⊢;clear y;obtain⟨s,D⟩:∃s,s=uI V c.head:=⟨_,rfl⟩;have au:=Ry D;rw[←D] at T C;clear D;go_loopw [20] (λag wr=>∃(j:Nat) (r:Value),j<=m.length/\ag=ι j/\Hid (j4 w.heap.size wr (w.heap.size+1) r ((m.take j).foldl uI s))/\Rz wr w.heap.size #[ν] 141/\μ w wr) (λi _=>m.length-(intOf i).toNat);exact⟨0,_,zv _,rfl,T,F,M⟩;obtain⟨j,v3,hj,rfl,x,t,n⟩:=hrel;have a4:=n.size;by_cases p:j<m.length
  .obtain⟨gl,a9,a6,u,A,p0,p1,p2,al⟩:=Q.cell j p;subst u;have aF:=zl n A p0;have aG:=zl n A p1;have aA:=zl n A p2;have a7:gl<wr.heap.size:=by omega
   have az:Hid ((m.take (j+1)).foldl uI s=uI ((m.take j).foldl uI s) m[j]):=by rw[Hid,yP p,jr];rfl
   have z:((m.take j).foldl uI s).length+kC m[j]<=900:=by
    have:=Ds (m.take j) s;have:=OT m j p;have:=C.out;omega
   clear p0 p1 p2;generalize (m.take j).foldl uI s=nj at *;generalize m[j]=l at *;have a2:=Ry λW a b=>HA.out W v3 nj l _ al b a z;go_wp2_with (go_at_call 113;refine(a2.out _ (x.out.below (by go_grown)) (zM n (by go_grown) (zf _))).mono ?_;rintro e w4 ⟨rfl,v4,U,ah,E⟩;have Y:=Ry U;have O:=E _ _ _ (by omega) (by decide) (t.below zP);clear U E)
   go_roundw;exact⟨j+1,v4,by omega,by go_num,by rw[az.out];exact Y.out,O,ah⟩;simp[intOf];omega
  rw[xk (by omega),ad.out] at x;have HQ:Hid (j4 w.heap.size wr (w.heap.size+1) v3 ((cs.take (k+1)).foldl vV [])):=by rw[Hid,HS.out,a1.out,←au.out];exact x.out
  go_wp2;go_roundw;exact⟨k+1,v3,by omega,by go_num,HQ,t,n⟩;simp[intOf];omega
 rw[xk (by omega)] at R;obtain⟨ap,J,rfl⟩:=R.out.2.2.qy;obtain⟨aB,a3,ai⟩:=R.out;obtain⟨aD,aE,aC⟩:=a3.boxed;obtain⟨ax,aL,aI⟩:=o.boxed;go_wp2
 (try simp only[Exit.inBlock,Exit.then])
 exact zO (v:=.agg #[.slice ap (cs.foldl vV []).length J]) (by simp[results,results72,go_sem,ax]) rfl ⟨_,rfl,by rw[HE.out];exact(ai.but ((RD.refl w.heap.size wr).setCell 0 _) o (by decide)),f.setCell (by simp) _⟩
end
section
open Go.Proofs.Tryz
variable {lo:Nat}
def TE(lo:Nat)(w:World)(a o:Nat)(ns:κ):Prop:=a<w.heap.size/\∃v,w.cell? ⟨a,o,none⟩=some v/\R7 lo w v ns
def TE.below{w w':World}{b o:Nat}{ns:κ}(h:TE lo w b o ns)(a:μ w w'):TE lo w' b o ns:=by
 obtain⟨c,v,e,d⟩:=h;exact⟨yE c a.size,v,(a.cell c).trans e,d.below a⟩
def Pt(w:World)(d o:Nat)(ns:κ)(k:Nat)(h:TE lo w d o ns):
  Calls prog 128 #[.pointer (some ⟨d,o,none⟩),ι k] w λe l=>e=ε (.string (ns.getD k ByteArray.empty))/\l=w:=by
 obtain⟨j,v,p,f⟩:=h;obtain⟨n,i,rfl⟩:=f.qy;by_cases b:k<ns.length
 .have a:Hid (ns.getD k ByteArray.empty=ns[k]):=by simp[Hid,List.getD_eq_getElem?_getD,b]
  obtain⟨g,rfl,m,c⟩:=f.cell k b;go_enter func128,ntmps128;go_wp2;go_ret;exact⟨by rw[a.out];rfl,rfl⟩
 have a:Hid (ns.getD k ByteArray.empty=ByteArray.empty):=by simp[Hid,List.getD_eq_getElem?_getD,List.getElem?_eq_none (Nat.le_of_not_lt b)]
 go_enter func128,ntmps128;go_wp2;go_ret;exact⟨by rw[a.out];rfl,rfl⟩
def TG(B:Nat)(w:World)(tb o:Nat)(t:List zg):Prop:=∃a,tb<w.heap.size/\w.cell? ⟨tb,o,none⟩=some a/\w.ownsRow B 221 3 a t.length (uh t)
def TG.below{B:Nat}{w w':World}{tb o:Nat}{t:List zg}(h:TG B w tb o t)(a:μ w w'):TG B w' tb o t:=by
 obtain⟨b,d,c,e⟩:=h;exact⟨b,by have:=a.size;omega,(zl a d c),zB e a⟩
def TG.view{B:Nat}{w:World}{tb o:Nat}{t:List zg}(h:TG B w tb o t):∃b a,w.cell? ⟨tb,o,none⟩=some (.slice b t.length a)/\w.ownsRow B 221 3 (.slice b t.length a) t.length (uh t):=by
 obtain⟨e,_,d,c⟩:=h;obtain⟨b,a,rfl⟩:=zq c;exact⟨b,a,d,c⟩
def Fw(B:Nat)(w:World)(tb o:Nat)(t:List zg)(n:ByteArray)(h:TG B w tb o t)(v:t.length<=1000):
  Calls prog 126 #[.pointer (some ⟨tb,o,none⟩),.string n] w λe q=>e=ε (ι (zT t n))/\q=w:=by
 obtain⟨u,m,x,c⟩:=h.view;go_enter func126,ntmps126;go_wp2;go_loop [5] (λi=>∃k:Nat,k<=t.length/\i=ι k/\Hid (∀j (a:j<t.length),j<k->RX t[j].name n=true)) (λi=>t.length-(intOf i).toNat);exact⟨0,zv _,rfl,λj a h=>by omega⟩;obtain⟨k,r,rfl,H⟩:=hrel;by_cases d:k<t.length
 .obtain⟨g,rfl,s,_,p,_,_⟩:=kJ c k d;cases f:RX t[k].name n
  .have b:=Ry (Cj t n k H.out d f);unfold RX at f;go_wp2;go_ret;exact⟨by rw[b.out];rfl,rfl⟩
  have b:Hid (∀j (a:j<t.length),j<k+1->RX t[j].name n=true):=λj a h=>by
   rcases dI j k with l|l;exact H.out j a l;obtain rfl:j=k:=by omega
   exact f
  unfold RX at f;go_wp2;go_round;exact⟨k+1,by omega,by go_num,b⟩;simp[intOf];omega
 have b:Hid (zT t n=k):=by
  have:=De t n (λj a=>H.out j a (by omega));unfold Hid;omega
 go_wp2;go_ret;exact⟨by rw[b.out];rfl,rfl⟩
def AG(B:Nat)(w:World)(tb o:Nat)(t:List zg)(n:ByteArray)(h:TG B w tb o t)(m:t.length<=1000)(i:zU t n=none):
  Calls prog 77 #[.pointer (some ⟨tb,o,none⟩),.string n] w λe c=>e=ε (.tuple #[ι 0,.bool false])/\c=w:=by
 have f:=Fw B w tb o t n h m;obtain⟨r,k,s,b⟩:=h.view;have a:=Ry f;rcases sW i with j|⟨j,d⟩
 .clear i;go_enter func77,ntmps77;go_wp2_with (go_at_call 126;refine a.out.mono ?_;rintro e c ⟨rfl,rfl⟩;clear a)
  go_ret2
  exact⟨rfl,rfl⟩
 obtain⟨g,rfl,q,_,l,_,_⟩:=kJ b _ j;have p:=qb d;go_enter func77,ntmps77;go_wp2_with (go_at_call 126;refine a.out.mono ?_;rintro e c ⟨rfl,rfl⟩;clear a)
 go_ret2
 exact⟨rfl,rfl⟩
def BP(B:Nat)(w:World)(tb o:Nat)(t:List zg)(n:ByteArray)(p:zg)(h:TG B w tb o t)(r:t.length<=1000)(k:zU t n=some p):
  Calls prog 77 #[.pointer (some ⟨tb,o,none⟩),.string n] w λe j=>e=ε (.tuple #[ι (zT t n),.bool true])/\j=w:=by
 have i:=Fw B w tb o t n h r;obtain⟨u,l,v,a⟩:=h.view;have b:=Ry i;obtain⟨m,c,q⟩:=jj k;obtain⟨g,rfl,s,_,d,_,f⟩:=kJ a _ m;rw[c] at d f;go_enter func77,ntmps77;go_wp2_with (go_at_call 126;refine b.out.mono ?_;rintro e j ⟨rfl,rfl⟩;clear b)
 go_ret2
 exact⟨rfl,rfl⟩
def ON(B:Nat)(w:World)(tb o:Nat)(t:List zg)(n:ByteArray)(h:TG B w tb o t)(d:t.length<=1000)(a:zU t n=none):
  Calls prog 159 #[.pointer (some ⟨tb,o,none⟩),.string n] w λe c=>e=ε (.tuple #[ι 0,.bool false])/\c=w:=by
 have b:=Ry (AG B w tb o t n h d a);clear h a d;go_enter func159,ntmps159;go_wp2_with (go_at_call 77;refine b.out.mono ?_;rintro e c ⟨rfl,rfl⟩;clear b)
 go_ret2
 exact⟨rfl,rfl⟩
def M7(B:Nat)(w:World)(tb o:Nat)(t:List zg)(n:ByteArray)(b:zg)(h:TG B w tb o t)(q:t.length<=1000)(c:zU t n=some b):
  Calls prog 159 #[.pointer (some ⟨tb,o,none⟩),.string n] w λe d=>e=ε (.tuple #[ι b.qh,.bool true])/\d=w:=by
 have f:=Ry (BP B w tb o t n b h q c);obtain⟨s,j,u,a⟩:=h.view;obtain⟨k,i,m⟩:=jj c;obtain⟨g,rfl,r,_,l,_,p⟩:=kJ a _ k;go_enter func159,ntmps159;go_wp2_with (go_at_call 77;refine f.out.mono ?_;rintro e d ⟨rfl,rfl⟩;clear f)
 go_ret2
 exact⟨rfl,rfl⟩
def zF(t:List zg)(n:ByteArray):Nat:=if (zU t n).isSome then zT t n else 0
def xH(t:List zg)(n:ByteArray):Nat:=match zU t n with|some e=>e.qh|none=>0
def eW(B:Nat)(w:World)(tb o:Nat)(t:List zg)(n:ByteArray)(h:TG B w tb o t)(a:t.length<=1000):
  Calls prog 77 #[.pointer (some ⟨tb,o,none⟩),.string n] w λe c=>e=ε (.tuple #[ι (zF t n:Nat),.bool (zU t n).isSome])/\c=w:=by
 unfold zF;rcases b:zU t n with _|d;exact AG B w tb o t n h a b;exact BP B w tb o t n d h a b
def Lv(B:Nat)(w:World)(tb o:Nat)(t:List zg)(n:ByteArray)(h:TG B w tb o t)(a:t.length<=1000):
  Calls prog 159 #[.pointer (some ⟨tb,o,none⟩),.string n] w λe c=>e=ε (.tuple #[ι (xH t n:Nat),.bool (zU t n).isSome])/\c=w:=by
 unfold xH;rcases b:zU t n with _|d;exact ON B w tb o t n h a b;exact M7 B w tb o t n d h a b
def yo(t:List zg)(i:Nat):Nat:=(t.map (·.ji)).getD i 0
def Qq(B:Nat)(w:World)(tb o:Nat)(t:List zg)(h:TG B w tb o t):
  Calls prog 115 #[.pointer (some ⟨tb,o,none⟩)] w λe b=>e=ε (ι t.length)/\b=w:=by
 obtain⟨d,c,f,a⟩:=h.view;clear h;go_enter func115,ntmps115;go_wp2;go_ret;exact⟨rfl,rfl⟩
def Fk(B:Nat)(w:World)(tb o:Nat)(t:List zg)(i:Nat)(h:TG B w tb o t):
  Calls prog 80 #[.pointer (some ⟨tb,o,none⟩),ι i] w λe j=>e=ε (ι (yo t i:Nat))/\j=w:=by
 obtain⟨l,d,m,a⟩:=h.view;by_cases b:i<t.length
 .obtain⟨g,rfl,k,_,_,f,_⟩:=kJ a i b;have c:Hid (yo t i=t[i].ji):=by simp[Hid,yo,b]
  go_enter func80,ntmps80;go_wp2;go_ret;exact⟨by rw[c.out];rfl,rfl⟩
 have c:Hid (yo t i=0):=by simp[Hid,yo,List.getD_eq_getElem?_getD,List.getElem?_eq_none (Nat.not_lt.1 b)]
 go_enter func80,ntmps80;go_wp2;go_ret;exact⟨by rw[c.out];rfl,rfl⟩
def NS(w:World)(vb:Nat)(d:Value)(vs:κ)(t:ByteArray)(q:w.cell? ⟨vb,0,none⟩=some d)(hs:R7 lo w d vs)(p:vs.length<=1000):
  Calls prog 200 #[(π vb),.string t] w λe f=>e=ε (.tuple #[ι ((y5 vs t).getD 0:Nat),.bool (y5 vs t).isSome])/\f=w:=by
 obtain⟨o,h,rfl⟩:=hs.qy;go_enter func200,ntmps200;go_wp2;go_loop [13] (λi=>∃k:Nat,k<=vs.length/\i=ι k/\Hid (y5 vs t=(y5 (vs.drop k) t).map (·+k))) (λi=>vs.length-(intOf i).toNat);exact⟨0,zv _,rfl,by simp[Hid]⟩;obtain⟨k,m,rfl,H⟩:=hrel;by_cases a:k<vs.length
 .obtain⟨g,rfl,n,l⟩:=hs.cell k a;by_cases c:vs[k]=t
  .have j:=jF c;have b:Hid (y5 vs t=some k):=by rw[Hid,H.out,il a c];simp
   go_wp2;go_ret2
   exact⟨by rw[b.out];rfl,rfl⟩
  have j:=qb c;have b:Hid (y5 vs t=(y5 (vs.drop (k+1)) t).map (·+(k+1))):=by
   rw[Hid,H.out,oK a c];cases y5 (vs.drop (k+1)) t<;>simp;omega
  go_wp2;go_round;exact⟨k+1,by omega,by go_num,b⟩;simp[intOf];omega
 have b:Hid (y5 vs t=none):=by rw[Hid,H.out,ua (by omega)];rfl
 go_wp2;go_ret2
 exact⟨by rw[b.out];rfl,rfl⟩
def Aq(w:World)(vb:Nat)(a:Value)(vs:κ)(f:w.cell? ⟨vb,0,none⟩=some a)(hs:R7 lo w a vs):
  Calls prog 146 #[(π vb)] w λe b=>e=ε (ι vs.length)/\b=w:=by
 obtain⟨d,c,rfl⟩:=hs.qy;go_enter func146,ntmps146;go_wp2;go_ret;exact⟨rfl,rfl⟩
end
section
variable {lo:Nat}{w:World}{v:Value}{o:Option (List Int)}
def qe(w:World)(v:Value)(o:Option (List Int)):Prop:=match o with
 |none=>v=ν
 |some l=>∃g f a,v=.slice (some ⟨g,f,none⟩) l.length a/\g<w.heap.size/\∀k (h:k<l.length),w.cell? ⟨g,f+k,none⟩=some (ι l[k])
def qe.below{w':World}(h:qe w v o)(b:μ w w'):qe w' v o:=by
 rcases o with _|l;exact h;obtain⟨g,f,a,e,i,d⟩:=h;exact⟨g,f,a,e,by have:=b.size;omega,λk c=>(b.cell (p:=⟨g,f+k,none⟩) i).trans (d k c)⟩
def qe.qy(h:qe w v o):∃b a,v=.slice b (o.getD []).length a:=by
 rcases o with _|l;exact⟨none,0,h⟩;obtain⟨g,f,a,c,_⟩:=h;exact⟨_,a,c⟩
def qe.cell{w:World}{c:Option Addr}{n cap:Nat}{o:Option (List Int)}(h:qe w (.slice c n cap) o)(k:Nat)(a:k<(o.getD []).length):∃g f,c=some ⟨g,f,none⟩/\g<w.heap.size/\w.cell? ⟨g,f+k,none⟩=some (ι (o.getD [])[k]):=by
 rcases o with _|l;simp at a;obtain⟨g,f,cap,b,e,d⟩:=h;simp only[Value.slice.injEq] at b;exact⟨g,f,b.1,e,d k a⟩
def j0(w:World)(v:Value)(os:Option (List (Option (List Int)))):Prop:=match os with
 |none=>v=ν
 |some l=>∃g f a,v=.slice (some ⟨g,f,none⟩) l.length a/\g<w.heap.size/\∀k (h:k<l.length),∃u,w.cell? ⟨g,f+k,none⟩=some u/\qe w u l[k]
def j0.below{w w':World}{v:Value}{os:Option (List (Option (List Int)))}(h:j0 w v os)(b:μ w w'):j0 w' v os:=by
 rcases os with _|l;exact h;obtain⟨g,f,a,j,m,i⟩:=h;refine⟨g,f,a,j,by have:=b.size;omega,λk c=>?_⟩;obtain⟨u,d,e⟩:=i k c;exact⟨u,(zl b m d),e.below b⟩
def j0.qy{os:Option (List (Option (List Int)))}(h:j0 w v os):∃b a,v=.slice b (os.getD []).length a:=by
 rcases os with _|l;exact⟨none,0,h⟩;obtain⟨g,f,a,c,_⟩:=h;exact⟨_,a,c⟩
def j0.cell{w:World}{b:Option Addr}{n cap:Nat}{os:Option (List (Option (List Int)))}(h:j0 w (.slice b n cap) os)(k:Nat)(a:k<(os.getD []).length):∃g f u,b=some ⟨g,f,none⟩/\g<w.heap.size/\w.cell? ⟨g,f+k,none⟩=some u/\qe w u (os.getD [])[k]:=by
 rcases os with _|l;simp at a;obtain⟨g,f,cap,c,j,i⟩:=h;simp only[Value.slice.injEq] at c;obtain⟨u,e,d⟩:=i k a;exact⟨g,f,u,c.1,j,e,d⟩
end
section
open Go.Proofs.Tryz
variable {lo:Nat}{l:List Int}{seen:List Bool}
def kF(n:Nat):List Int->List Bool->Bool
 |[],_=>true
 |x::r,seen=>if x<0∨(n:Int)<=x∨5<=x then false else if seen.getD x.toNat false then false else kF n r (seen.set x.toNat true)
def rz(l:List Int):Bool:=kF l.length l [false,false,false,false,false]
def Nx{n k:Nat}(a:k<l.length)(h:l[k]<0∨(n:Int)<=l[k]∨5<=l[k]):kF n (l.drop k) seen=false:=by
 rw[xh a,kF,zb h]
def PN{n k:Nat}(a:k<l.length)(h:seen.getD l[k].toNat false=true):kF n (l.drop k) seen=false:=by
 rw[xh a,kF];split;rfl;simp
def Oe{n k:Nat}(b:k<l.length)(h:¬(l[k]<0∨(n:Int)<=l[k]∨5<=l[k]))(a:seen.getD l[k].toNat false=false):kF n (l.drop k) seen=kF n (l.drop (k+1)) (seen.set l[k].toNat true):=by
 rw[xh b,kF,za h,za (by rw[a];decide)]
def Oa(w:World)(v:Value)(l:List Int)(h:qe w v (some l))(P:l.length<=2000000):
  Calls prog 155 #[v] w λe G=>e=ε (.bool (rz l))/\μ w G:=by
 obtain⟨g,f,I,rfl,C,r⟩:=h;have H:=Ry r;go_enter func155,ntmps155;go_wp2;go_loopw [8] (λK wr=>∃(k:Nat) (seen:List Bool),k<=l.length/\K=ι k/\seen.length=5/\Rz wr w.heap.size (seen.map Value.bool).toArray 282/\Hid (rz l=kF l.length (l.drop k) seen)/\μ w wr) (λi _=>l.length-(intOf i).toNat);exact⟨0,[false,false,false,false,false],zv _,rfl,rfl,Rz.new _ _ _,rfl,(by go_grown)⟩;obtain⟨k,seen,N,rfl,m,o,j,a⟩:=hrel;have t:=a.size;by_cases c:k<l.length
 .have F:=(a.cell (p:=⟨g,f+k,none⟩) C).trans (H.out k c);have q:Hid ((l[k]<0∨(l.length:Int)<=l[k]∨5<=l[k])->kF l.length (l.drop k) seen=false):=λh=>Nx c h;have A:Hid (seen.getD l[k].toNat false=true->kF l.length (l.drop k) seen=false):=λh=>PN c h;have u:=Ry fun(h:¬(l[k]<0∨(l.length:Int)<=l[k]∨5<=l[k])) (D:seen.getD l[k].toNat false=false)=>Oe c h D;generalize l[k]=x at *;by_cases y:x<0
  .go_wp2;go_ret;exact⟨by rw[j.out,q.out (zh y)];rfl,a⟩
  obtain⟨n,rfl⟩:=Int.eq_ofNat_of_zero_le (Int.not_lt.1 y);by_cases E:(l.length:Int)<=(n:Int)
  .go_wp2;go_ret;exact⟨by rw[j.out,q.out (ze (zh E))];rfl,a⟩
  by_cases L:(5:Int)<=(n:Int)
  .go_wp2;go_ret;exact⟨by rw[j.out,q.out (ze (ze L))];rfl,a⟩
  have s:n<5:=by omega
  obtain⟨z,Q⟩:=o.rules;have J:wr.cell? ⟨w.heap.size,n,none⟩=some (.bool (seen.getD n false)):=by
   rw[z];simp[m,s,List.getD_eq_getElem?_getD]
  have d:=o.set n (.bool true);have M:Hid (((seen.map Value.bool).toArray.setIfInBounds n (.bool true))=((seen.set n true).map Value.bool).toArray):=by simp[Hid,List.map_set]
  rw[M.out] at d;simp only[Int.toNat_natCast] at A u;clear z;generalize O:seen.getD n false=b at *;cases b
  .go_wp2;go_roundw;exact⟨k+1,seen.set n true,by omega,by go_num,by simpa using m,d,by rw[Hid,j.out,u.out (by omega) (by trivial)],a.setCell (by simp) _⟩;simp[intOf];omega
  go_wp2;go_ret;exact⟨by rw[j.out,A.out (by trivial)];rfl,a⟩
 have B:Hid (kF l.length (l.drop k) seen=true):=by rw[ua (by omega)];rfl
 go_wp2;go_ret;exact⟨by rw[j.out,B.out];rfl,a⟩
def kD(c:zd):Option (List Int)->Bool
 |none=>true
 |some l=>l.length == (zx c).length&&rz l
def J1(w:World)(c:zd)(B vb t:Value)(o:Option (List Int))(hs:R7 lo w B c.head.args)(F:Sc lo w vb c.body)(I:c.head.args.length+xg c.body<=1000)(z:c.body.length<=1000)(y:qe w t o)(r:(o.getD []).length<=2000000):
  Calls prog 112 #[.agg #[.bool c.head.neg,.string c.head.pred,B,vb],t] w λe G=>e=ε (.bool (kD c o))/\μ w G:=by
 have A:=Ry λW n=>ou W c _ _ (hs.below n) (F.below n) I z;rcases o with _|l
 .have H:=y;subst H;have m:∀W:World,(binOp .eql 24 (ν) (ν)).run prog W=.ok (.bool true) W:=λW=>by
   have:=run_equal_slice_nil W 24 3 none 0 0 underlying24;simp[binOp,this]
  go_enter func112,ntmps112;go_wp2;go_ret;exact⟨rfl,(by go_grown)⟩
 have E:=Ry λW n=>Oa W t l (y.below n) r;have C:Hid (kD c (some l)=(l.length == (zx c).length&&rz l)):=rfl;obtain⟨g,f,h,rfl,_,_⟩:=y;have m:∀W:World,(binOp .eql 24 (.slice (some ⟨g,f,none⟩) l.length h) (ν)).run prog W=.ok (.bool false) W:=λW=>by
  have:=run_equal_slice_nil W 24 3 (some ⟨g,f,none⟩) l.length h underlying24;simp[binOp,this]
 generalize zx c=vs at *;by_cases p:l.length=vs.length
 .have s:((l.length:Int) != (vs.length:Int))=false:=by rw[p];simp
  have v:=Ry p;clear p;go_enter func112,ntmps112;go_wp2_with (first|(go_at_call 148;refine(A.out _ (by exact(by go_grown))).mono ?_;rintro e u ⟨J,rfl,a,j⟩;obtain⟨q,k,rfl⟩:=zq a;have b:μ w u:=(zM (by go_grown) j (zf _));have d:=b.size)|(go_at_call 146;refine(Aq _ _ _ vs (by exact(Rz.new _ _ _).rules.1 0) (by exact zB a (by go_grown))).mono ?_;rintro e D ⟨rfl,i⟩;obtain rfl:=i.symm)|(go_at_call 155;refine(E.out _ (by exact(b.alloc d _))).mono ?_;rintro e K ⟨rfl,x⟩))
  go_ret;exact⟨by rw[C.out];simp[v.out],R5 (b.alloc d _) x⟩
 have s:((l.length:Int) != (vs.length:Int))=true:=by rw[bne_iff_ne];omega
 go_enter func112,ntmps112;go_wp2_with (first|(go_at_call 148;refine(A.out _ (by exact(by go_grown))).mono ?_;rintro e u ⟨J,rfl,a,j⟩;obtain⟨q,k,rfl⟩:=zq a;have b:μ w u:=(zM (by go_grown) j (zf _));have d:=b.size)|(go_at_call 146;refine(Aq _ _ _ vs (by exact(Rz.new _ _ _).rules.1 0) (by exact zB a (by go_grown))).mono ?_;rintro e D ⟨rfl,i⟩;obtain rfl:=i.symm))
 go_ret;exact⟨by rw[C.out];simp[p],b.alloc d _⟩
def jK(cs:List zd):Option (List (Option (List Int)))->Bool
 |none=>true
 |some l=>l.length == cs.length&&(cs.zip l).all λx=>kD x.1 x.2
def JU(cs:List zd)(l:List (Option (List Int)))(h:l.length=cs.length)(k:Nat)(a:k<cs.length):((cs.drop k).zip (l.drop k)).all (λx=>kD x.1 x.2)=(kD cs[k] (l[k]'(by omega))&&((cs.drop (k+1)).zip (l.drop (k+1))).all λx=>kD x.1 x.2):=by
 rw[xh a,xh (l:=l) (i:=k) (by omega),List.zip_cons_cons,List.all_cons]
def CC(w:World)(cv ov:Value)(cs:List zd)(os:Option (List (Option (List Int))))(hc:Se lo 171 w cv cs)(X:∀c∈cs,vT c)(hl:cs.length<=1000)(ho:j0 w ov os)(Z:(os.getD []).length<=2000000)(A:∀o∈os.getD [],(o.getD []).length<=2000000):
  Calls prog 71 #[cv,ov] w λe h=>e=ε (.bool (jK cs os))/\μ w h:=by
 obtain⟨aj,ah,rfl⟩:=hc.qy;rcases os with _|l
 .have h0:ov=ν:=ho;subst h0;have s:∀W:World,(binOp .eql 26 (ν) (ν)).run prog W=.ok (.bool true) W:=λW=>by
   have:=run_equal_slice_nil W 26 24 none 0 0 underlying26;simp[binOp,this]
  go_enter func71,ntmps71;go_wp2;go_ret;exact⟨rfl,(by go_grown)⟩
 simp only[uL] at Z A;have HO:=Ry ho;have ae:=Ry hc;have B:Hid (jK cs (some l)=(l.length == cs.length&&(cs.zip l).all λx=>kD x.1 x.2)):=rfl;have ad:=Ry A;have ab:=Ry X;obtain⟨g,f,t,rfl,hg,_⟩:=ho;have s:∀W:World,(binOp .eql 26 (.slice (some ⟨g,f,none⟩) l.length t) (ν)).run prog W=.ok (.bool false) W:=λW=>by
  have:=run_equal_slice_nil W 26 24 (some ⟨g,f,none⟩) l.length t underlying26;simp[binOp,this]
 clear hc A X;by_cases m:l.length=cs.length
 .have I:((l.length:Int) != (cs.length:Int))=false:=by rw[m];simp
  have Q:=Ry m;have ai:l.length<=1000:=by omega
  have Y:Hid (jK cs (some l)=((cs.drop 0).zip (l.drop 0)).all λx=>kD x.1 x.2):=by rw[Hid,B.out];simp[m]
  clear m B;go_enter func71,ntmps71;go_wp2;clear I s;go_loopw [16] (λaa wr=>∃k:Nat,k<=cs.length/\aa=ι k/\Hid (jK cs (some l)=((cs.drop k).zip (l.drop k)).all λx=>kD x.1 x.2)/\μ w wr) (λi _=>cs.length-(intOf i).toNat);exact⟨0,zv _,rfl,Y,(by go_grown)⟩;clear Y;obtain⟨k,hk,rfl,B,a⟩:=hrel;have ag:=a.size;by_cases q:k<cs.length
  .have E:k<l.length:=by rw[Q.out];exact q
   obtain⟨g0,z,p,y,j,rfl,r,C,P,G,L,V,R⟩:=ae.out.cell k q;obtain⟨O,S⟩:=ab.out cs[k] (zt q);obtain⟨_,_,u,F,_,hu,J⟩:=HO.out.cell k E;simp only[zr,Addr.mk.injEq,and_true] at F;obtain⟨rfl,rfl⟩:=F;have D:=ad.out l[k] (zt E);have N:=Ry λW hW=>J1 W cs[k] _ _ u l[k] (V.below hW) (R.below hW) O S (J.below hW) D;have T:Hid (((cs.drop k).zip (l.drop k)).all (λx=>kD x.1 x.2)=(kD cs[k] l[k]&&((cs.drop (k+1)).zip (l.drop (k+1))).all λx=>kD x.1 x.2)):=JU cs l Q.out k q;have e0:=zl a r C;have e1:=zl a r P;have e2:=zl a r G;have e3:=zl a r L;have eu:=zl a hg hu;have af:g0<wr.heap.size:=by omega
   have U:g<wr.heap.size:=by omega
   clear C P G L hu J V R O S D;generalize cs[k]=c at *;generalize kD c l[k]=b at *;have M:=Rz.new wr #[.bool c.head.neg,.string c.head.pred,.slice z c.head.args.length p,.slice y c.body.length j] 171;cases b
   .go_wp2;go_region_held3 (λh=>h.cell? ⟨wr.heap.size,0,none⟩=some (.bool c.head.neg)/\h.cell? ⟨wr.heap.size,1,none⟩=some (.string c.head.pred)/\h.cell? ⟨wr.heap.size,2,none⟩=some (.slice z c.head.args.length p)/\h.cell? ⟨wr.heap.size,3,none⟩=some (.slice y c.body.length j)/\h.cell? ⟨g,f+k,none⟩=some u) (first|go_keep|(go_split_ands;refine⟨?_,?_,?_,?_,?_⟩<;>go_keep)) (first|(go_at_call 112;refine(N.out _ (by exact(zM a (by go_grown) (zf _)))).mono ?_;rintro e w4 ⟨rfl,d⟩;have n:μ wr w4:=(zM (by go_grown) d (zf _));have v:=M.below (by first|exact d|exact(zI (zp _ _) _).trans d);obtain⟨H,K⟩:=v.rules;have ac:=(zl n U eu)))
    go_wp2;go_ret;exact⟨by rw[B.out,T.out];rfl,R5 a n⟩
   go_wp2;go_region_held3 (λh=>h.cell? ⟨wr.heap.size,0,none⟩=some (.bool c.head.neg)/\h.cell? ⟨wr.heap.size,1,none⟩=some (.string c.head.pred)/\h.cell? ⟨wr.heap.size,2,none⟩=some (.slice z c.head.args.length p)/\h.cell? ⟨wr.heap.size,3,none⟩=some (.slice y c.body.length j)/\h.cell? ⟨g,f+k,none⟩=some u) (first|go_keep|(go_split_ands;refine⟨?_,?_,?_,?_,?_⟩<;>go_keep)) (first|(go_at_call 112;refine(N.out _ (by exact(zM a (by go_grown) (zf _)))).mono ?_;rintro e w4 ⟨rfl,d⟩;have n:μ wr w4:=(zM (by go_grown) d (zf _));have v:=M.below (by first|exact d|exact(zI (zp _ _) _).trans d);obtain⟨H,K⟩:=v.rules;have ac:=(zl n U eu)))
   go_wp2;go_roundw;exact⟨k+1,by omega,by go_num,by rw[Hid,B.out,T.out];simp,R5 a n⟩;simp[intOf];omega
  have HZ:Hid (jK cs (some l)=true):=by rw[Hid,B.out,ua (by omega)];rfl
  go_wp2;go_ret;exact⟨by rw[HZ.out];rfl,a⟩
 have I:((l.length:Int) != (cs.length:Int))=true:=by rw[bne_iff_ne];omega
 have Y:Hid (jK cs (some l)=false):=by rw[Hid,B.out];simp[m]
 go_enter func71,ntmps71;go_wp2;go_ret;exact⟨by rw[Y.out];rfl,(by go_grown)⟩
end
end Go.Proofs.YteampbddflhngaaGreat
