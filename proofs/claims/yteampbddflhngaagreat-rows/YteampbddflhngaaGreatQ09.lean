import Derived.Laws.Tables
import Derived.Laws.Rows
import Derived.Deep.MidRow
import Derived.Test.YteampbddflhngaaGreatQ02
namespace Go.Proofs.YteampbddflhngaaGreat
set_option linter.all false
set_option maxRecDepth 100000
set_option maxHeartbeats 4000000
open Go.RowKit
section
open Go.Proofs.Tryz
variable {lo:Nat}
def RR.side{w:World}{n:Nat}{J:z7}{P:x9}(h:RR lo w n J P)(s l:Nat)(hs:s<J.ja.length)(r:l<3):
  ∃a b j q,P.sv=.slice (some ⟨a,0,none⟩) J.ja.length b/\a<w.heap.size/\a≠n/\w.cell? ⟨a,s*4,none⟩=some ((π j))/\w.cell? ⟨a,s*4+1+l,none⟩=some (ι ((J.ja[s].qi.getD l 0:Nat):Int))/\ya lo w j J.ja[s].rows q/\(∀o,w.frozen? ⟨a,o,none⟩=false):=by
 obtain⟨a,b,f,_,e,d⟩:=yw h.ja (by omega);have g:s<P.tbs.length:=by rw[h.slen];exact hs
 obtain⟨p,m,i,k⟩:=sN (List.zipWith dQ J.ja P.tbs) s (by simp;omega);simp only[List.getElem_zipWith,dQ] at p m i k;have c:=h.ja;rw[f] at c;refine⟨a,b,P.tbs[s].1,P.tbs[s].2,f,e,vD h.ja h.box (by decide) (by rw[f];rfl),d _ _ p,?_,h.tries s hs g,uH c⟩;obtain rfl|rfl|rfl:l=0∨l=1∨l=2:=by omega
 exact d _ _ m;exact d _ _ i;exact d _ _ k
def Jp(w:World)(a:Nat)(J:z7)(P:x9)(s l f:Nat)(h:RR lo w a J P):
  Calls prog 229 #[(π a),.agg #[ι s,ι l],ι f] w λe t=>e=ε (qY (vP J (s,l) f).2)/\RR lo t a (vP J (s,l) f).1 P/\zc [a] w t:=by
 have q:=Ry λW T=>E1 W a J P s l (h.below T);have F:=Ry h;cases g:vI J (s,l)
 .have i:Hid (vP J (s,l) f=(J,none)):=by simp[Hid,vP,g]
  go_enter func229,ntmps229;go_wp2_with (go_at_call 231;refine(q.out _ (by exact(by go_grown))).mono ?_;rintro e j ⟨rfl,c⟩;have b:μ w j:=zM (by go_grown) c (zf _))
  go_ret2
  exact⟨by rw[i.out];rfl,by rw[i.out];exact F.out.below b,zc.of b⟩
 have u:s<J.ja.length/\l<3:=by simpa [vI] using g
 obtain⟨L,Y⟩:=u;have i:Hid (vP J (s,l) f=({J with jg:=IntKind.i64.wrap (J.jg+1)},yB J.ja[s].rows (J.ja[s].qi.getD l 0) f)):=by simp[Hid,vP,g,List.getD_eq_getElem?_getD,L]
 obtain⟨ac,_⟩:=h.at;go_enter func229,ntmps229;go_wp2_with (go_at_call 231;refine(q.out _ (by exact(by go_grown))).mono ?_;rintro e j ⟨rfl,c⟩;have b:μ w j:=zM (by go_grown) c (zf _);have d:=F.out.below b;obtain⟨O,S,_,_,_,U,_,_,_,I⟩:=d.at;have r:=(Rz.new w #[ι s,ι l] 327).below c;obtain⟨v,y,ab⟩:=r.boxed;have A:=Ry d;clear d)
 have D:IntKind.i64.wrap (J.jg+1)=wrap64 (J.jg+1):=by rw[IntKind.wrap_i64];unfold wrap64;rfl
 rw[D] at i;have o:Hid (RR lo (j.setCell ⟨a,27,none⟩ (ι (wrap64 (J.jg+1)))) a {J with jg:=wrap64 (J.jg+1)} P):=A.out.setMoves _;have x:w.heap.size≠a:=by omega
 have m:=r.set_ne x 27 (ι (wrap64 (J.jg+1)));have B:zc [a] w (j.setCell ⟨a,27,none⟩ (ι (wrap64 (J.jg+1)))):=(zc.of b).trans (zc.set _ _ _ _);generalize j.setCell ⟨a,27,none⟩ (ι (wrap64 (J.jg+1)))=G at *;have p:=o.out;obtain⟨N,H,_,_,_,X,_⟩:=p.at;obtain⟨Z,K,k,z,R,Q,_,V,aa,E,_⟩:=p.side s l L Y;obtain⟨v,y⟩:=m.rules;have C:Hid (∀n,Calls prog 167 #[(π k),ι ((J.ja[s].qi.getD l 0:Nat):Int),ι f] (G.drewN n) λe t=>e=ε (.tuple #[ι (((yB J.ja[s].rows (J.ja[s].qi.getD l 0) f).getD 0:Nat):Int),.bool (yB J.ja[s].rows (J.ja[s].qi.getD l 0) f).isSome])/\t=G.drewN n):=λn=>so _ k _ z _ f (E.below (zI (zp _ _) n));generalize J.ja[s].qi.getD l 0=nd at *;go_quiet ((go_at_call 167;exact Calls.quiet_of_same (C.out _)))
 go_wp2;go_ret2
 exact⟨by rw[i.out];rfl,by rw[i.out];exact o.out.below (zI (zp _ _) _),B.newer (zc.of (M:=[]) (zI (zp _ _) _)) (by simp)⟩
def iC:∀(hs:List (Nat×Nat)) (k:Nat) (a:k<hs.length),(km hs)[k*2]?=some (ι (hs[k].1:Nat))/\(km hs)[k*2+1]?=some (ι (hs[k].2:Nat))
 |[],k,a=>by simp at a
 |p::r,0,_=>by simp[km]
 |p::r,k+1,a=>by
  have:=iC r k (by simpa using a);simp only[km,uA] at this ⊢;rw[show(k+1)*2=k*2+1+1 from by omega,show k*2+1+1+1=k*2+1+1+1 from rfl];simpa using this
def RR.hold{w:World}{j:Nat}{J:z7}{P:x9}(h:RR lo w j J P)(p:Nat)(q:p<5):∃g b,w.cell? ⟨j,5+p,none⟩=some (.slice g (J.jf.getD p []).length b)/\(J.jf.getD p []).length<=1000/\∀k (m:k<(J.jf.getD p []).length),∃a,g=some ⟨a,0,none⟩/\a<w.heap.size/\a≠j/\w.cell? ⟨a,k*2,none⟩=some (ι ((J.jf.getD p [])[k].1:Nat))/\w.cell? ⟨a,k*2+1,none⟩=some (ι ((J.jf.getD p [])[k].2:Nat)):=by
 have n:p<J.jf.length:=by rw[h.hlen.2];exact q
 have s:p<P.hvs.length:=by rw[h.hlen.1];exact q
 have e:J.jf.getD p []=J.jf[p]:=by simp[List.getD_eq_getElem?_getD,n]
 rw[e];obtain⟨l,v,_⟩:=h.jf p n s;obtain⟨g,b,o⟩:=zq l;obtain⟨x,_⟩:=h.box.rules;refine⟨g,b,?_,v,λk m=>?_⟩
 .rw[←o,x];obtain⟨A,B,z,C,D,y⟩:=five h.hlen.1;obtain rfl|rfl|rfl|rfl|rfl:p=0∨p=1∨p=2∨p=3∨p=4:=by omega
  all_goals simp[uw,y]
 obtain⟨a,r,c,_,i,f⟩:=yw l (by omega);have d:=o.symm.trans c;simp only[Value.slice.injEq] at d;obtain⟨t,u⟩:=iC J.jf[p] k m;exact⟨a,d.1,i,vD l h.box (by decide) (by rw[c];rfl),f _ _ t,f _ _ u⟩
def Ol(J:z7)(h:Nat×Nat)(f:Nat):(vP J h f).1.jf=J.jf:=by unfold vP;split<;>rfl
def NT(w:World)(x:Nat)(J:z7)(P:x9)(p f n:Nat)(O:z7)(r:Option Nat)(h:RR lo w x J P)(C:fe n J p f=some (O,r)):
  Calls prog 227 #[(π x),ι p,ι f] w λe T=>e=ε (qY r)/\RR lo T x O P/\zc [x] w T:=by
 have HJ:=Ry h;unfold fe at C;by_cases h5:p≥5
 .rw[zb (zh h5)] at C;simp only[zr,yc] at C;obtain⟨rfl,rfl⟩:=C;clear h;go_enter func227,ntmps227;go_wp2;go_ret2
  exact⟨rfl,HJ.out,zc.refl _ _⟩
 obtain⟨ao,an,D,Z,ab⟩:=h.hold p (by omega);clear ab;obtain⟨ar,ai,_⟩:=h.at;by_cases h0:(J.jf.getD p []).length=0
 .rw[zb (ze h0)] at C;simp only[zr,yc] at C;obtain⟨rfl,rfl⟩:=C;clear h;generalize (J.jf.getD p []).length=hn at *;subst h0;go_enter func227,ntmps227;go_wp2;go_ret2
  exact⟨rfl,HJ.out,zc.refl _ _⟩
 rw[za (by omega)] at C;have HR:=Ry C;clear C h;have G:(J.jf.getD p []).length>0:=by omega
 obtain⟨d,M⟩:∃d,d=J.jf.getD p []:=⟨_,rfl⟩;rw[←M] at HR D Z G;have S:=Ry M;clear M;have aq:((d.length:Int) == 0)=false:=beq_eq_false_iff_ne.2 (by omega);go_enter func227,ntmps227;go_wp2;go_loopg [8,9,10] n (λk v8 v9 ac wr=>∃(A:z7) (at' c a:Nat),v8=ι at'/\v9=ι c/\ac=ι a/\Hid (kY k A d at' c a=some (O,r))/\Hid (RR lo wr x A P)/\Hid (A.jf=J.jf)/\zc [x] w wr/\c<=d.length/\a<d.length)
 case atStart=>exact⟨J,f,0,0,rfl,rfl,rfl,HR,HJ,rfl,zc.refl _ _,by omega,G⟩
 clear D;obtain⟨A,at',c,a,rfl,rfl,rfl,HQ,I,R,u,ap,X⟩:=hrel;have N:=I.out;obtain⟨ag,ae,_⟩:=N.at;obtain⟨al,af,D,_,t⟩:=N.hold p (by omega);rw[R.out,←S.out] at D t;obtain⟨hb,aa,ak,ah,aj,am⟩:=t a X;subst aa;clear t N;rcases gk with _|m;have q:=HQ.out;simp[kY] at q;have q:=HQ.out;unfold kY at q;by_cases Q:c<d.length
 .rw[zb Q] at q;have eg:d.getD a (0,0)=d[a]:=by simp[List.getD_eq_getElem?_getD,X]
  rw[eg] at q;have o:Hid (Calls prog 229 #[(π x),.agg #[ι (d[a].1:Nat),ι (d[a].2:Nat)],ι at'] wr λe T=>e=ε (.tuple #[ι (((vP A d[a] at').2.getD 0:Nat):Int),.bool (vP A d[a] at').2.isSome])/\RR lo T x (vP A d[a] at').1 P/\zc [x] wr T):=Jp wr x A P d[a].1 d[a].2 at' I.out;have K:=Ol A d[a] at';generalize ad:vP A d[a] at'=lj at *;clear ad;obtain⟨H,r2⟩:=lj;generalize d[a]=hd at *;simp only at q o K;rcases r2 with _|v
  .simp only[zr,yc] at q;obtain⟨e1,U⟩:=q;simp only[gM,gL] at o;have Y:Hid (O=H/\r=none):=⟨e1.symm,U.symm⟩;clear e1 U;go_wp2_with (go_at_call 229;refine o.out.mono ?_;rintro e F ⟨rfl,b,l⟩;have j:=Ry b;clear b)
   go_ret2
   exact⟨by rw[Y.out.2];rfl,by rw[Y.out.1];exact j.out,u.trans l⟩
  simp only[uL,kc] at o;have i:Hid (kY m H d (if v>at' then v else at') ((if v>at' then 0 else c)+1) (if a+1≥d.length then 0 else a+1)=some (O,r)):=q;have y:=Ry (K.trans R.out);have E:Hid (∀W,RR lo W x H P->∃s g,W.cell? ⟨x,5+p,none⟩=some (.slice s d.length g)):=λW hW=>by
   obtain⟨s,g,q1,_⟩:=hW.hold p (by omega);rw[y.out,←S.out] at q1;exact⟨s,g,q1⟩
  clear q K;by_cases hv:v>at'
  .rw[zb hv,zb hv] at i;by_cases V:a+1≥d.length
   .rw[zb V] at i;go_wp2_with (go_at_call 229;refine o.out.mono ?_;rintro e F ⟨rfl,b,l⟩;have j:=Ry b;obtain⟨s,g,L⟩:=E.out F b;obtain⟨z,B,_⟩:=b.at;clear b)
    go_roundg m
    case measure=>omega
    exact⟨H,v,1,0,rfl,rfl,rfl,i,j,y,u.trans l,by omega,by omega⟩
   rw[za V] at i;go_wp2_with (go_at_call 229;refine o.out.mono ?_;rintro e F ⟨rfl,b,l⟩;have j:=Ry b;obtain⟨s,g,L⟩:=E.out F b;obtain⟨z,B,_⟩:=b.at;clear b)
   go_roundg m
   case measure=>omega
   exact⟨H,v,1,a+1,rfl,rfl,by go_num,i,j,y,u.trans l,by omega,by omega⟩
  rw[za hv,za hv] at i;by_cases V:a+1≥d.length
  .rw[zb V] at i;go_wp2_with (go_at_call 229;refine o.out.mono ?_;rintro e F ⟨rfl,b,l⟩;have j:=Ry b;obtain⟨s,g,L⟩:=E.out F b;obtain⟨z,B,_⟩:=b.at;clear b)
   go_roundg m
   case measure=>omega
   exact⟨H,at',c+1,0,rfl,by go_num,rfl,i,j,y,u.trans l,by omega,by omega⟩
  rw[za V] at i;go_wp2_with (go_at_call 229;refine o.out.mono ?_;rintro e F ⟨rfl,b,l⟩;have j:=Ry b;obtain⟨s,g,L⟩:=E.out F b;obtain⟨z,B,_⟩:=b.at;clear b)
  go_roundg m
  case measure=>omega
  exact⟨H,at',c+1,a+1,rfl,by go_num,by go_num,i,j,y,u.trans l,by omega,by omega⟩
 rw[za Q] at q;simp only[zr,yc] at q;obtain⟨e1,U⟩:=q;have Y:Hid (O=A/\r=some at'):=⟨e1.symm,U.symm⟩;clear e1 U;go_wp2;go_ret2
 exact⟨by rw[Y.out.2];rfl,by rw[Y.out.1];exact I.out,u⟩
def DY:∀(a:List V4) (k:Nat) (_:k<a.length) (u:Value),(y6 a).set (k*4+2) u=y6 (a.modify k λy=>(y.1,y.2.1,u,y.2.2.2))
 |[],k,b,_=>by simp at b
 |y::r,0,_,u=>by simp[y6,fa]
 |y::r,k+1,b,u=>by
  have:=DY r k (by simpa using b) u;simp only[y6,uA,fa,List.modify_succ_cons] at this ⊢;rw[show(k+1)*4+2=k*4+2+1+1+1+1 from by omega];simpa using this
def Bb:∀(a:List V4) (k:Nat) (_:k<a.length) (u:Value),(y6 a).set (k*4+3) u=y6 (a.modify k λy=>(y.1,y.2.1,y.2.2.1,u))
 |[],k,b,_=>by simp at b
 |y::r,0,_,u=>by simp[y6,fa]
 |y::r,k+1,b,u=>by
  have:=Bb r k (by simpa using b) u;simp only[y6,uA,fa,List.modify_succ_cons] at this ⊢;rw[show(k+1)*4+3=k*4+3+1+1+1+1 from by omega];simpa using this
def RR.setNode{w:World}{C:Nat}{J:z7}{P:x9}(h:RR lo w C J P)(s i n:Nat)(hs:s<J.ja.length)(S:i=1∨i=2){g cap:Nat}(A:P.sv=.slice (some ⟨g,0,none⟩) J.ja.length cap):
  RR lo (w.setCell ⟨g,s*4+1+i,none⟩ (ι n)) C {J with ja:=J.ja.set s {J.ja[s] with qi:=J.ja[s].qi.set i n}} P:=by
 have c:=zc.set w g (s*4+1+i) (ι n);have d:=h.ja;rw[A] at d;have Q:s<P.tbs.length:=by rw[h.slen];exact hs
 have f:=h.qi _ (zt hs);have m:∀{G:Nat} {e:TypeId} {H:Nat} {v:Value} {N:Nat} {F:List Value},w.ownsRow G e H v N F->e≠323->∀b,v.ownBlock=some b->b∉[g]:=λR O b t l=>m7 R d O t (by simp at l;rw[l];rfl);obtain⟨o,u⟩:=DH d;have r:∀{y:Nat} {T:zj} {E:List Nat},ya lo w y T E->ya lo (w.setCell ⟨g,s*4+1+i,none⟩ (ι n)) y T E:=λB=>B.save c (λb K l=>by simp at l;subst l;exact B.notin (show Rz w _ o 323 from u) (by decide) (by decide) (by decide) K);refine⟨h.low,h.box.save c (by have:=vD d h.box (by decide) rfl;simpa using Ne.symm this),h.head.save c (m h.head.own (by decide)),?_,by simpa using h.slen,λk a b=>?_,λx L=>?_,yK h.bars c (m h.bars (by decide)),h.blen,λk a b=>⟨(h.jk k a b).1.save c (m (h.jk k a b).1.own (by decide)),r (h.jk k a b).2⟩,h.hlen,λp a b=>⟨yK (h.jf p a b).1 c (m (h.jf p a b).1 (by decide)),(h.jf p a b).2⟩,h.jl,by simpa using h.few⟩;have D:(y6 (List.zipWith dQ J.ja P.tbs)).length=J.ja.length*4:=by rw[tH];simp[h.slen]
 have q:=uj d (s*4+1+i) (by omega) (ι n);rw[A];have e:(y6 (List.zipWith dQ J.ja P.tbs)).set (s*4+1+i) (ι n)=y6 (List.zipWith dQ (J.ja.set s {J.ja[s] with qi:=J.ja[s].qi.set i n}) P.tbs):=by
  have z:s<(List.zipWith dQ J.ja P.tbs).length:=by simp;omega
  rcases S with rfl|rfl;rw[show s*4+1+1=s*4+2 from by omega,DY _ s z];congr 1;apply j7;simp;intro j M I;by_cases e:s=j;subst e;simp[dQ,List.getD_eq_getElem?_getD,f];simp[e];rw[show s*4+1+2=s*4+3 from by omega,Bb _ s z];congr 1;apply j7;simp;intro j M I;by_cases e:s=j;subst e;simp[dQ,List.getD_eq_getElem?_getD,f];simp[e]
 rw[e] at q;simpa using q;simp only[gx] at a;simp only[lg];split;rename_i e;subst e;exact r (h.tries s hs b);exact r (h.tries k a b);rcases lz L with q|q;exact h.qi x q;subst q;simp[f]
def Iu(w:World)(D:Nat)(J:z7)(P:x9)(s l v:Nat)(h:RR lo w D J P)(aq:l<=1000000):
  Calls prog 230 #[(π D),.agg #[ι s,ι l],ι v] w λe V=>e=ε (.tuple #[])/\RR lo V D (vf v J (s,l)) P/\zc P.sv.ownBlock.toList w V:=by
 have j:=Ry λW Y=>E1 W D J P s l (h.below Y);have U:=Ry h;cases b:vI J (s,l)
 .have N:Hid (vf v J (s,l)=J):=by simp[Hid,vf,b]
  rw[b] at j;clear b h;go_enter func230,ntmps230;go_wp2_with (go_at_call 231;refine(j.out _ (by exact(by go_grown))).mono ?_;rintro e f ⟨rfl,g⟩;have d:μ w f:=zM (by go_grown) g (zf _))
  (try simp only[Exit.inBlock,Exit.then]);refine zO (results_none rfl _ _ _) rfl ?_
  exact⟨rfl,by rw[N.out];exact U.out.below d,zc.of d⟩
 have Z:s<J.ja.length/\l<3:=by simpa [vI] using b
 obtain⟨L,hl⟩:=Z;by_cases S:l+1≥3
 .have N:Hid (vf v J (s,l)=J):=by simp[Hid,vf,S]
  rw[b] at j;clear b h;go_enter func230,ntmps230;go_wp2_with (go_at_call 231;refine(j.out _ (by exact(by go_grown))).mono ?_;rintro e f ⟨rfl,g⟩;have d:μ w f:=zM (by go_grown) g (zf _);have m:=(Rz.new w #[ι s,ι l] 327).below g;obtain⟨y,A,B⟩:=m.boxed)
  (try simp only[Exit.inBlock,Exit.then]);refine zO (results_none rfl _ _ _) rfl ?_
  exact⟨rfl,by rw[N.out];exact U.out.below d,zc.of d⟩
 have N:Hid (vf v J (s,l)={J with ja:=J.ja.set s {J.ja[s] with qi:=J.ja[s].qi.set (l+1) ((zH J.ja[s].rows (J.ja[s].qi.getD l 0) v).getD 0)}}):=by simp[Hid,vf,b,S,List.getD_eq_getElem?_getD,L]
 rw[b] at j;have ap:(s:Int)<(J.ja.length:Int):=by omega
 have av:(l:Int)<3:=by omega
 have an:(l:Int)+1<3:=by omega
 obtain⟨ak,_⟩:=h.at;clear b h;go_enter func230,ntmps230;go_wp2_with (go_at_call 231;refine(j.out _ (by exact(by go_grown))).mono ?_;rintro e f ⟨rfl,g⟩;have d:μ w f:=zM (by go_grown) g (zf _);have m:=(Rz.new w #[ι s,ι l] 327).below g;obtain⟨y,A,B⟩:=m.boxed)
 have i:=Ry (U.out.below d);have x:=i.out;obtain⟨r,F,_,_,_,z,_⟩:=x.at;obtain⟨C,au,tb,fp,k,H,ar,ab,ad,R,X⟩:=x.side s l L hl;rw[k] at z;have O:Hid (∀n,Calls prog 130 #[(π tb),ι ((J.ja[s].qi.getD l 0:Nat):Int),ι v] (f.drewN n) λe V=>e=ε (.tuple #[ι (((zH J.ja[s].rows (J.ja[s].qi.getD l 0) v).getD 0:Nat):Int),.bool (zH J.ja[s].rows (J.ja[s].qi.getD l 0) v).isSome])/\V=f.drewN n):=λn=>nM _ tb _ fp _ v (R.below (zI (zp _ _) n));have I:Hid (∀W n,μ f W->RR lo (W.setCell ⟨C,s*4+1+(l+1),none⟩ (ι ((n:Nat):Int))) D {J with ja:=J.ja.set s {J.ja[s] with qi:=J.ja[s].qi.set (l+1) n}} P):=λW n Y=>(i.out.below Y).setNode s (l+1) n L (by omega) k;have aa:Hid (P.sv.ownBlock.toList=[C]):=by rw[Hid,k];rfl
 have t:∃u,f.cell? ⟨C,s*4+1+(l+1),none⟩=some u:=by
  obtain⟨ag,T,ac,ah,a,_,_,_,q,_⟩:=i.out.side s (l+1) L (by omega);rw[k] at a;simp only[Value.slice.injEq,zr,Addr.mk.injEq] at a;obtain⟨⟨rfl,_⟩,_⟩:=a;exact⟨_,q⟩
 obtain⟨u,Q⟩:=t;clear R x;generalize (zH J.ja[s].rows (J.ja[s].qi.getD l 0) v).getD 0=dn at *;generalize (zH J.ja[s].rows (J.ja[s].qi.getD l 0) v).isSome=ds at *;generalize J.ja[s].qi.getD l 0=nd at *;go_quiet ((go_at_call 130;exact Calls.quiet_of_same (O.out _)))
 have c:μ f (f.drewN nq):=zI (zp _ _) _;clear y A B r F X O;have al:=(c.cell (p:=⟨D,3,none⟩) (i.out.box.lt)).trans z;have ai:=zl c H Q;have K:=m.below c;have G:=I.out _ dn c;have aj:∀o,(f.drewN nq).frozen? ⟨C,o,none⟩=false:=by
  obtain⟨ag,T,ac,ah,a,_,_,_,_,_,q⟩:=(i.out.below c).side s l L hl;rw[k] at a;simp only[Value.slice.injEq,zr,Addr.mk.injEq] at a;obtain⟨⟨rfl,_⟩,_⟩:=a;exact q
 have ae:zc [C] w (f.drewN nq):=zc.of (R5 d c);have am:=yE H c.size;have r:=yE i.out.box.lt c.size;have ao:C≠w.heap.size:=λe=>by
  have E:=i.out.ja;rw[k] at E;exact vD E m (by decide) rfl e
 generalize f.drewN nq=w2 at *;have af:=Ry G;clear G I z Q ab ad m U j;obtain⟨y,A,B⟩:=K.boxed;go_wp2;go_region
 all_goals
  go_wp2;go_end0
  exact⟨rfl,by rw[N.out];exact af.out.below (zp _ _).drew,by rw[aa.out];exact(ae.trans (zc.set _ _ _ _)).newer (zc.of (M:=[]) (zp _ _).drew) (by simp)⟩
end
section
open Go.Proofs.Tryz
variable {lo:Nat}{w:World}{jb:Nat}{J:z7}{P:x9}
def RR.hold2(h:RR lo w jb J P)(p:Nat)(q:p<5):∃c a,P.hvs[p]?=some (.slice c (J.jf.getD p []).length a)/\w.cell? ⟨jb,5+p,none⟩=some (.slice c (J.jf.getD p []).length a)/\(J.jf.getD p []).length<=1000/\(∀k (g:k<(J.jf.getD p []).length),∃b,c=some ⟨b,0,none⟩/\b<w.heap.size/\w.cell? ⟨b,k*2,none⟩=some (ι ((J.jf.getD p [])[k].1:Nat))/\w.cell? ⟨b,k*2+1,none⟩=some (ι ((J.jf.getD p [])[k].2:Nat))/\(J.jf.getD p [])[k].2<=1000000):=by
 have o:p<J.jf.length:=by rw[h.hlen.2];exact q
 have n:p<P.hvs.length:=by rw[h.hlen.1];exact q
 have e:J.jf.getD p []=J.jf[p]:=by simp[List.getD_eq_getElem?_getD,o]
 rw[e];obtain⟨r,v,m⟩:=h.jf p o n;obtain⟨c,a,j⟩:=zq r;obtain⟨x,_⟩:=h.box.rules;refine⟨c,a,by rw[yi n,j],?_,v,λk g=>?_⟩
 .rw[←j,x];obtain⟨z,B,A,C,D,y⟩:=five h.hlen.1;obtain rfl|rfl|rfl|rfl|rfl:p=0∨p=1∨p=2∨p=3∨p=4:=by omega
  all_goals simp[uw,y]
 obtain⟨b,s,l,_,i,f⟩:=yw r (by omega);have d:=j.symm.trans l;simp only[Value.slice.injEq] at d;obtain⟨t,u⟩:=iC J.jf[p] k g;exact⟨b,d.1,i,f _ _ t,f _ _ u,(m _ (zt g)).2⟩
def gE(J:z7)(p v:Nat):z7:={J with jd:=J.jd.set p v,«from»:=(if p+1<5 then(J.from.set p (v+1)).set (p+1) 0 else J.from.set p (v+1))}
def Jf(J:z7)(p v:Nat)(a:p<5):us J p v=(J.jf.getD p []).foldl (vf v) (gE J p v):=by unfold us;rw[za (by omega)];rfl
def RR.setVal(h:RR lo w jb J P)(p v:Nat)(f:p+1<5):RR lo (((w.setCell ⟨jb,16+p,none⟩ (ι v)).setCell ⟨jb,21+p,none⟩ (ι ((v:Int)+1))).setCell ⟨jb,21+(p+1),none⟩ (ι 0)) jb (gE J p v) P:=by
 obtain⟨a,b,c⟩:=h.jl;refine h.rebox (((zc.set _ _ _ _).trans (zc.set _ _ _ _)).trans (zc.set _ _ _ _)) ?_ rfl rfl rfl rfl rfl (by simp[gE,f,a,b,c]);obtain⟨m,q,n,z,C,j⟩:=five h.hlen.1;obtain⟨o,l,D,t,A,g⟩:=five a;obtain⟨u,x,F,k,y,i⟩:=five b;obtain⟨s,B,E,G,r,e⟩:=five c;have d:=((h.box.set (16+p) (ι v)).set (21+p) (ι ((v:Int)+1))).set (21+(p+1)) (ι 0);obtain rfl|rfl|rfl|rfl:p=0∨p=1∨p=2∨p=3:=by omega
 all_goals simpa [uw,gE,j,g,i,e,Sf] using d
def RR.setVal4(h:RR lo w jb J P)(p v:Nat)(t:p<5)(z:¬p+1<5):RR lo ((w.setCell ⟨jb,16+p,none⟩ (ι v)).setCell ⟨jb,21+p,none⟩ (ι ((v:Int)+1))) jb (gE J p v) P:=by
 obtain rfl:p=4:=by omega
 obtain⟨a,b,c⟩:=h.jl;refine h.rebox ((zc.set _ _ _ _).trans (zc.set _ _ _ _)) ?_ rfl rfl rfl rfl rfl (by simp[gE,a,b,c]);obtain⟨l,o,m,A,D,i⟩:=five h.hlen.1;obtain⟨n,k,E,s,B,f⟩:=five a;obtain⟨u,x,G,j,y,g⟩:=five b;obtain⟨r,C,F,H,q,e⟩:=five c;have d:=(h.box.set (16+4) (ι v)).set (21+4) (ι ((v:Int)+1));simpa [uw,gE,i,f,g,e,Sf] using d
def NL(v:Nat)(J:z7)(h:Nat×Nat):(vf v J h).jf=J.jf:=by unfold vf;split<;>rfl
def Gu(v:Nat):∀(hs:List (Nat×Nat)) (J:z7),(hs.foldl (vf v) J).jf=J.jf
 |[],J=>rfl
 |h::r,J=>by rw[uu,Gu v r,NL]
def RR.vals(h:RR lo w jb J P)(p:Nat)(t:p<5):w.cell? ⟨jb,16+p,none⟩=some (ι (J.jd.getD p 0:Nat))/\w.cell? ⟨jb,21+p,none⟩=some (ι (J.from.getD p 0:Nat))/\w.cell? ⟨jb,10+p,none⟩=some (ι (J.jh.getD p 0)):=by
 obtain⟨a,_⟩:=h.box.rules;obtain⟨b,f,i⟩:=h.jl;obtain⟨l,o,m,y,B,g⟩:=five h.hlen.1;obtain⟨n,k,C,s,z,d⟩:=five b;obtain⟨u,v,E,j,x,e⟩:=five f;obtain⟨r,A,D,F,q,c⟩:=five i;rw[a,a,a];obtain rfl|rfl|rfl|rfl|rfl:p=0∨p=1∨p=2∨p=3∨p=4:=by omega
 all_goals simp[uw,g,d,e,c,Sf]
def KJ(w:World)(jb:Nat)(J:z7)(P:x9)(p v:Nat)(h:RR lo w jb J P)(hv:v<=1000000):
  Calls prog 228 #[(π jb),ι p,ι v] w λe n=>e=ε (.tuple #[])/\RR lo n jb (us J p v) P/\zc (jb::P.sv.ownBlock.toList) w n:=by
 have U:=Ry h;by_cases R:p<5
 .have z:=Ry (Jf J p v R);obtain⟨S,E,_⟩:=h.at;obtain⟨m,t,_⟩:=h.vals p R;by_cases K:p+1<5;obtain⟨_,D,_⟩:=h.vals (p+1) K;have B:(p:Int)<5:=by omega
  have H:(p:Int)+1<5:=by omega
  have g:=h.setVal p v K;have s:zc [jb] w (((w.setCell ⟨jb,16+p,none⟩ (ι v)).setCell ⟨jb,21+p,none⟩ (ι ((v:Int)+1))).setCell ⟨jb,21+(p+1),none⟩ (ι 0)):=((zc.set _ _ _ _).trans (zc.set _ _ _ _)).trans (zc.set _ _ _ _);clear h;go_enter func228,ntmps228;go_upto_region 5 with fail
  clear m t D;generalize (((w.setCell ⟨jb,16+p,none⟩ (ι v)).setCell ⟨jb,21+p,none⟩ (ι ((v:Int)+1))).setCell ⟨jb,21+(p+1),none⟩ (ι 0))=w1 at *;rotate_left
  have B:(p:Int)<5:=by omega
  have H:¬(p:Int)+1<5:=by omega
  have g:=h.setVal4 p v R K;have s:zc [jb] w ((w.setCell ⟨jb,16+p,none⟩ (ι v)).setCell ⟨jb,21+p,none⟩ (ι ((v:Int)+1))):=(zc.set _ _ _ _).trans (zc.set _ _ _ _);clear h;go_enter func228,ntmps228;go_upto_region 5 with fail
  clear m t;generalize ((w.setCell ⟨jb,16+p,none⟩ (ι v)).setCell ⟨jb,21+p,none⟩ (ι ((v:Int)+1)))=w1 at *
  all_goals
   have j:=Ry g;clear g S E;obtain⟨ao,ad,c,f,d,_⟩:=j.out.hold2 p (by omega);obtain⟨o,y,_⟩:=j.out.at;rw[show(gE J p v).jf=J.jf from rfl] at c f d;obtain⟨a,l⟩:∃a,a=J.jf.getD p []:=⟨_,rfl⟩;rw[←l] at c f d z;have G:=Ry l;have F:=Ry c;clear l c;go_wp2;clear f o y;generalize decide ((p:Int)<0)=ae;generalize decide ((5:Int)<=(p:Int))=Y;go_loopw [43] (λN wr=>∃k:Nat,k<=a.length/\N=ι k/\Hid (RR lo wr jb ((a.take k).foldl (vf v) (gE J p v)) P)/\zc (jb::P.sv.ownBlock.toList) w wr) (λi _=>a.length-(intOf i).toNat);exact⟨0,zv _,rfl,j,s.more (by simp)⟩;obtain⟨k,hk,rfl,b,r⟩:=hrel;by_cases u:k<a.length
   .obtain⟨V,T,A,_,_,Q⟩:=b.out.hold2 p (by omega);rw[Gu,show(gE J p v).jf=J.jf from rfl,←G.out] at A Q;rw[F.out] at A;simp only[zr,Value.slice.injEq] at A;obtain⟨rfl,_,rfl⟩:=A;obtain⟨hb,rfl,ab,aa,ac,C⟩:=Q k u;have HS:=Ry (sp a (vf v) (gE J p v) k u);have HD:Hid (∀W,μ wr W->Calls prog 230 #[(π jb),.agg #[ι (a[k].1:Nat),ι (a[k].2:Nat)],ι v] W λe n=>e=ε (.tuple #[])/\RR lo n jb (vf v ((a.take k).foldl (vf v) (gE J p v)) a[k]) P/\zc P.sv.ownBlock.toList W n):=λW X=>Iu W jb _ P a[k].1 a[k].2 v (b.out.below X) C;clear Q;generalize (a.take k).foldl (vf v) (gE J p v)=Jk at *;generalize a[k]=hd at *;go_wp2_with (go_at_call 230;refine(HD.out _ (by exact(by go_grown))).mono ?_;rintro e w2 ⟨rfl,q,L⟩;have I:=Ry q;clear q;have O:=(zc.of (M:=P.sv.ownBlock.toList) (show μ wr _ from(by go_grown))).trans L)
    go_roundw;exact⟨k+1,by omega,by go_num,by rw[HS.out];exact I.out,r.trans (O.more (λx Z=>pF _ Z))⟩;simp[intOf];omega
   obtain rfl:k=a.length:=by omega
   rw[uR] at b;go_wp2;go_end0
   exact⟨rfl,by rw[z.out];exact b.out,r⟩
 have z:Hid (us J p v=J):=by unfold us;rw[Hid,zb (by omega)]
 clear h;go_enter func228,ntmps228;go_wp2
 (try simp only[Exit.inBlock,Exit.then]);refine zO (results_none rfl _ _ _) rfl ?_
 exact⟨rfl,by rw[z.out];exact U.out,zc.refl _ _⟩
end
section
open Go.Proofs.Tryz
variable {lo:Nat}
def RR.bar{w:World}{t:Nat}{J:z7}{P:x9}(h:RR lo w t J P)(k:Nat)(n:k<J.bars.length):
  ∃c d b a m r,P.bv=.slice (some ⟨c,0,none⟩) J.bars.length d/\c<w.heap.size/\w.cell? ⟨c,k*4,none⟩=some (ι (J.bars[k].lit.pred:Nat))/\w.cell? ⟨c,k*4+1,none⟩=some (.slice b J.bars[k].lit.qg.length a)/\w.cell? ⟨c,k*4+2,none⟩=some (ι (J.bars[k].je:Nat))/\w.cell? ⟨c,k*4+3,none⟩=some ((π m))/\yn lo w (.slice b J.bars[k].lit.qg.length a) J.bars[k].lit.qg/\ya lo w m J.bars[k].rows r:=by
 obtain⟨c,d,u,_,i,f⟩:=yw h.bars (by omega);have j:k<P.bps.length:=by rw[h.blen];exact n
 obtain⟨q,l,o,p⟩:=sN (List.zipWith gz J.bars P.bps) k (by simp;omega);simp only[List.getElem_zipWith,gz] at q l o p;obtain⟨g,s⟩:=h.jk k n j;obtain⟨b,a,e⟩:=g.qy;rw[e] at l g;exact⟨c,d,b,a,_,_,u,i,f _ _ q,f _ _ l,f _ _ o,f _ _ p,g,s⟩
def LX(l:zw)(vals:List Nat):zG l vals=[R0 l vals 0,R0 l vals 1,R0 l vals 2]:=rfl
def Gm(w:World)(m:Nat)(J:z7)(P:x9)(l:Nat)(h:RR lo w m J P):
  Calls prog 223 #[(π m),ι l] w λe n=>e=ε (.bool (uW J l))/\μ w n:=by
 have HJ:=Ry h;obtain⟨H,F,_,_,_,_,U,_⟩:=h.at;obtain⟨aG,a2,T⟩:=zq h.bars;rw[T] at U;obtain⟨a,b,c,d,e,t⟩:=five h.jl.2.1;have a5:=h.few.2.1;have HV:Hid (∀W,RR lo W m J P->W.cell? ⟨m,16,none⟩=some (ι a)/\W.cell? ⟨m,17,none⟩=some (ι b)/\W.cell? ⟨m,18,none⟩=some (ι c)/\W.cell? ⟨m,19,none⟩=some (ι d)/\W.cell? ⟨m,20,none⟩=some (ι e)):=λW p=>by
  have q0:=(p.vals 0 (by omega)).1;have q1:=(p.vals 1 (by omega)).1;have q2:=(p.vals 2 (by omega)).1;have q3:=(p.vals 3 (by omega)).1;have q4:=(p.vals 4 (by omega)).1;rw[t] at q0 q1 q2 q3 q4;exact⟨q0,q1,q2,q3,q4⟩
 have HE:Hid (uW J l=J.bars.any (λx=>x.je == l&&(ut x.rows [R0 x.lit [a,b,c,d,e] 0,R0 x.lit [a,b,c,d,e] 1,R0 x.lit [a,b,c,d,e] 2]).isSome)):=by
  rw[Hid];unfold uW;rw[t];rfl
 clear h;go_enter func223,ntmps223;go_wp2;clear U H F;go_loopw [15] (λau wr=>∃k:Nat,k<=J.bars.length/\au=ι k/\Hid ((J.bars.take k).any (λx=>x.je == l&&(ut x.rows [R0 x.lit [a,b,c,d,e] 0,R0 x.lit [a,b,c,d,e] 1,R0 x.lit [a,b,c,d,e] 2]).isSome)=false)/\μ w wr) (λi _=>J.bars.length-(intOf i).toNat);exact⟨0,zv _,rfl,rfl,zp _ _⟩;obtain⟨k,hk,rfl,HA,j⟩:=hrel;have R:=j.size;by_cases G:k<J.bars.length
 .have A:=HJ.out.below j;obtain⟨H,F,_⟩:=A.at;obtain⟨ay,aj,av,ad,ai⟩:=HV.out wr A;obtain⟨gb,aF,o,g,K,fp,s,aK,ab,aw,ak,am,hT,S⟩:=A.bar k G;rw[T] at s;simp only[Value.slice.injEq] at s;obtain⟨rfl,_,rfl⟩:=s;have HS:Hid ((J.bars.take (k+1)).any (λx=>x.je == l&&(ut x.rows [R0 x.lit [a,b,c,d,e] 0,R0 x.lit [a,b,c,d,e] 1,R0 x.lit [a,b,c,d,e] 2]).isSome)=((J.bars.take k).any (λx=>x.je == l&&(ut x.rows [R0 x.lit [a,b,c,d,e] 0,R0 x.lit [a,b,c,d,e] 1,R0 x.lit [a,b,c,d,e] 2]).isSome)||(J.bars[k].je == l&&(ut J.bars[k].rows [R0 J.bars[k].lit [a,b,c,d,e] 0,R0 J.bars[k].lit [a,b,c,d,e] 1,R0 J.bars[k].lit [a,b,c,d,e] 2]).isSome))):=Ss J.bars _ k G;have ap:Hid ((J.bars[k].je == l&&(ut J.bars[k].rows [R0 J.bars[k].lit [a,b,c,d,e] 0,R0 J.bars[k].lit [a,b,c,d,e] 1,R0 J.bars[k].lit [a,b,c,d,e] 2]).isSome)=true->uW J l=true):=λq=>by rw[HE.out];exact Fg J.bars _ k G q
  have a0:Hid (∀W,μ wr W->Calls prog 161 #[.agg #[ι (J.bars[k].lit.pred:Nat),.slice o J.bars[k].lit.qg.length g],.agg #[ι a,ι b,ι c,ι d,ι e]] W λr n=>r=ε (.agg #[ι ((R0 J.bars[k].lit [a,b,c,d,e] 0:Nat):Int),ι ((R0 J.bars[k].lit [a,b,c,d,e] 1:Nat):Int),ι ((R0 J.bars[k].lit [a,b,c,d,e] 2:Nat):Int)])/\μ W n):=λW p=>ik W _ J.bars[k].lit.pred J.bars[k].lit.qg a b c d e (hT.below p);have M:Hid (∀W x y z,μ wr W->Calls prog 83 #[(π K),.agg #[ι ((x:Nat):Int),ι ((y:Nat):Int),ι ((z:Nat):Int)]] W λr n=>r=ε (.tuple #[ι (((ut J.bars[k].rows [x,y,z]).getD 0:Nat):Int),.bool (ut J.bars[k].rows [x,y,z]).isSome])/\μ W n):=λW x y z p=>Js W K _ fp x y z (S.below p);clear hT S A;generalize J.bars[k]=f at *;generalize R0 f.lit [a,b,c,d,e] 0=Y at *;generalize R0 f.lit [a,b,c,d,e] 1=X at *;generalize R0 f.lit [a,b,c,d,e] 2=Z at *;by_cases L:f.je=l
  .subst L;have I:=Ry λW p=>M.out W Y X Z p;clear M;generalize (ut f.rows [Y,X,Z]).getD 0=mg at *;generalize (ut f.rows [Y,X,Z]).isSome=ms at *;have ae:((f.je:Int) == (f.je:Int))=true:=beq_self_eq_true _;have B:=Rz.new wr #[ι f.lit.pred,.slice o f.lit.qg.length g,ι f.je,(π K)] 325;have u:μ wr (wr.alloc (.cells #[ι f.lit.pred,.slice o f.lit.qg.length g,ι f.je,(π K)] 325)):=(zp _ _).alloc (zf _) _;have E:=HJ.out.below (R5 j u);obtain⟨a9,aC,_⟩:=E.at;obtain⟨aa,ax,al,af,az⟩:=HV.out _ E;clear E;go_wp2;generalize wr.alloc (.cells #[ι f.lit.pred,.slice o f.lit.qg.length g,ι f.je,(π K)] 325)=wA at *;clear ab aw ak am ay aj av ad ai H F;obtain⟨aH,aJ,aI⟩:=B.boxed;have aD:=u.size;go_region_held3 (λn=>n.cell? ⟨wr.heap.size,0,none⟩=some (ι f.lit.pred)/\n.cell? ⟨wr.heap.size,1,none⟩=some (.slice o f.lit.qg.length g)/\n.cell? ⟨m,16,none⟩=some (ι a)/\n.cell? ⟨m,17,none⟩=some (ι b)/\n.cell? ⟨m,18,none⟩=some (ι c)/\n.cell? ⟨m,19,none⟩=some (ι d)/\n.cell? ⟨m,20,none⟩=some (ι e)) (first|go_keep|(go_simp;done)) (first|(go_at_call 161;refine(a0.out _ (by exact(by go_grown))).mono ?_;rintro r w2 ⟨rfl,Q⟩;have v:μ wA w2:=(zM (by go_grown) Q (zf _));have O:=B.below v;obtain⟨a7,a8,a4⟩:=O.boxed;have aL:=v.size;have V:=HJ.out.below (R5 (R5 j u) v);obtain⟨a1,a3,_⟩:=V.at;obtain⟨ah,ao,ar,an,ac⟩:=HV.out w2 V;try (have ag:=(show Rz ((wA.alloc (.cells #[ι 0,ι 0,ι 0] 165)).drew) wA.heap.size #[ι 0,ι 0,ι 0] 165 from Rz.drew (Rz.new _ _ _)).below Q;obtain⟨a6,aA,aB⟩:=ag.boxed)))
   all_goals
    have aE:=R5 u v;clear ah ao ar an ac aa ax al af az;cases ms
    .have N:Hid ((J.bars.take (k+1)).any (λx=>x.je == f.je&&(ut x.rows [R0 x.lit [a,b,c,d,e] 0,R0 x.lit [a,b,c,d,e] 1,R0 x.lit [a,b,c,d,e] 2]).isSome)=false):=by rw[Hid,HS.out,HA.out];simp
     go_wp2_with (go_at_call 83;refine(I.out _ (by exact(by go_grown))).mono ?_;rintro r w3 ⟨rfl,C⟩;have D:μ wr w3:=(zM (by go_grown) C (zf _)))
     go_roundw;exact⟨k+1,by omega,by go_num,N,R5 j D⟩;simp[intOf];omega
    have aq:=Ry (ap.out (by simp));go_wp2_with (go_at_call 83;refine(I.out _ (by exact(by go_grown))).mono ?_;rintro r w3 ⟨rfl,C⟩;have D:μ wr w3:=(zM (by go_grown) C (zf _)))
    go_ret;exact⟨by rw[aq.out];rfl,R5 j D⟩
  have N:Hid ((f.je == l&&(ut f.rows [Y,X,Z]).isSome)=false):=by rw[Hid,beq_eq_false_iff_ne.2 L];rfl
  have ae:((f.je:Int) == (l:Int))=false:=beq_eq_false_iff_ne.2 (by omega);go_wp2;go_roundw;exact⟨k+1,by omega,by go_num,by rw[HS.out,HA.out,N.out];rfl,j.alloc R _⟩;simp[intOf];omega
 have N:Hid (uW J l=false):=by
  rw[Hid,HE.out];have q:=HA.out;rw[xk (by omega)] at q;exact q
 go_wp2;go_ret;exact⟨by rw[N.out];rfl,j⟩
end
section
open Go.Proofs.Tryz
variable {lo:Nat}{J:z7}
def S6(J:z7):Prop:=∀s∈J.ja,s.rows.qf<=1000
def RR.narrow{w:World}{d:Nat}{P:x9}(h:RR lo w d J P):S6 J:=by
 intro s c;obtain⟨k,a,rfl⟩:=uO c;obtain⟨e,f,b,_⟩:=h.tries k a (by rw[h.slen];exact a);exact b.wide
def KZ(h:S6 J)(b:Nat×Nat)(f:Nat):S6 (vP J b f).1/\∀v,(vP J b f).2=some v->v<=1000/\f<=1000:=by
 unfold vP;split;rename_i c;refine⟨h,λv a=>?_⟩;have d:b.1<J.ja.length:=by simp[vI] at c;exact c.1
 have e:J.ja.getD b.1 yS.zero=J.ja[b.1]:=by simp[List.getD_eq_getElem?_getD,d]
 simp only[e] at a;have g:=h _ (zt d);have j:=em a;have i:f<J.ja[b.1].rows.qf:=by
  unfold yB at a;split at a;rename_i q;exact q.2;cases a
 omega;exact⟨h,λv a=>by cases a⟩
def BA:∀(n:Nat) (J:z7) (hs:List (Nat×Nat)) (a c b:Nat) (e:z7) (v:Nat),S6 J->(c<hs.length∨a<=1000)->kY n J hs a c b=some (e,some v)->v<=1000
 |0,_,_,_,_,_,_,_,_,_,h=>by simp[kY] at h
 |n+1,J,hs,a,c,b,e,v,g,m,h=>by
  unfold kY at h;by_cases d:c<hs.length
  .rw[zb d] at h;obtain⟨k,l⟩:=KZ g (hs.getD b (0,0)) a;generalize vP J (hs.getD b (0,0)) a=j at *;obtain⟨i,f⟩:=j;cases f with
   |none=>simp at h
   |some u=>
    obtain⟨p,o⟩:=l u rfl;refine BA n i hs _ _ _ e v k (ze ?_) h;split<;>omega
  .rw[za d] at h;simp only[zr,yc] at h;obtain⟨_,rfl⟩:=h;omega
def Lb{n:Nat}{a:z7}{p f v:Nat}(c:S6 J)(h:fe n J p f=some (a,some v)):v<=1000:=by
 unfold fe at h;by_cases b:p≥5∨(J.jf.getD p []).length=0;rw[zb b] at h;simp at h;rw[za b] at h;exact BA n J _ f 0 0 a v c (zh (by omega)) h
def KC(w:World)(d:Nat)(J:z7)(P:x9)(n:Nat)(C:z7)(b:Bool)(h:RR lo w d J P)(V:qS n J J.ql=some (C,b)):
  Calls prog 224 #[(π d)] w λe A=>e=ε (.bool b)/\RR lo A d C P/\zc (d::P.sv.ownBlock.toList) w A:=by
 have Z:=Ry h;have HR:=Ry V;obtain⟨K,H,_,_,_,_,_,_,G,_⟩:=h.at;clear h V;go_enter func224,ntmps224;go_wp2;clear G K H;go_loopg [3] n (λk v3 wr=>∃(i:z7) (o:Int),v3=ι o/\Hid (qS k i o=some (C,b))/\Hid (RR lo wr d i P)/\zc (d::P.sv.ownBlock.toList) w wr)
 case atStart=>exact⟨J,J.ql,rfl,HR,Z,zc.refl _ _⟩
 obtain⟨i,o,rfl,R,c,l⟩:=hrel;obtain⟨K,H,_,_,ad,_⟩:=c.out.at;have aa:=c.out.few.2.2;rcases gk with _|m;have q:=R.out;simp[qS] at q;have q:=R.out;unfold qS at q;by_cases f:0<=o/\o<i.vars/\o<5
 .rw[zb f] at q;obtain⟨d1,d2,d3⟩:=f;obtain⟨p,rfl⟩:∃p:Nat,o=p:=⟨o.toNat,by omega⟩;have F:p<5:=by omega
  simp only[Int.toNat_natCast] at q;obtain⟨_,ac,ab⟩:=c.out.vals p F;rcases B:fe m i p (i.from.getD p 0) with _|ar;rw[B] at q;cases q;obtain⟨g,L⟩:=ar;rw[B] at q;have r:Hid (Calls prog 227 #[(π d),ι p,ι ((i.from.getD p 0:Nat):Int)] wr λe A=>e=ε (.tuple #[ι ((L.getD 0:Nat):Int),.bool L.isSome])/\RR lo A d g P/\zc [d] wr A):=NT wr d i P p _ m g L c.out B;rcases L with _|v
  .simp only[gM,gL] at r;have j:Hid (qS m g (g.jh.getD p 0)=some (C,b)):=q;clear q B;generalize i.from.getD p 0=fr at *;go_wp2_with (go_at_call 227;refine r.out.mono ?_;rintro e O ⟨rfl,a,y⟩;have x:=Ry a;obtain⟨U,Q,_⟩:=a.at;obtain⟨_,_,Y⟩:=a.vals p F;clear a)
   go_roundg m
   case measure=>omega
   exact⟨g,g.jh.getD p 0,rfl,j,x,l.trans (y.more (by simp))⟩
  have hv:=Lb c.out.narrow B;simp only[uL,kc] at r;have j:Hid (qS m (us g p v) (if uW (us g p v) (p+1)=true then(p:Int) else(p:Int)+1)=some (C,b)):=q;clear q B;have I:=Ry λW (N:RR lo W d g P)=>KJ W d g P p v N (by omega);have E:Hid (∀W,RR lo W d (us g p v) P->Calls prog 223 #[(π d),ι ((p:Int)+1)] W λe A=>e=ε (.bool (uW (us g p v) (p+1)))/\μ W A):=λW N=>by
   have q:=Gm W d _ P (p+1) N;rw[show((p+1:Nat):Int)=(p:Int)+1 from by omega] at q;exact q
  generalize i.from.getD p 0=fr at *;generalize uW (us g p v) (p+1)=bb at *;generalize us g p v=S at *;cases bb
  .rw[za (by simp)] at j;go_wp2_with (first|(go_at_call 227;refine r.out.mono ?_;rintro e O ⟨rfl,a,y⟩;have x:=Ry a;clear a)|(go_at_call 228;refine(I.out _ x.out).mono ?_;rintro e w3 ⟨rfl,s,z⟩;have t:=Ry s;clear s)|(go_at_call 223;refine(E.out _ t.out).mono ?_;rintro e w4 ⟨rfl,u⟩))
   go_roundg m
   case measure=>omega
   exact⟨S,(p:Int)+1,rfl,j,t.out.below u,((l.trans (y.more (by simp))).trans z).newer (zc.of (M:=[]) u) (by simp)⟩
  rw[zb rfl] at j;go_wp2_with (first|(go_at_call 227;refine r.out.mono ?_;rintro e O ⟨rfl,a,y⟩;have x:=Ry a;clear a)|(go_at_call 228;refine(I.out _ x.out).mono ?_;rintro e w3 ⟨rfl,s,z⟩;have t:=Ry s;clear s)|(go_at_call 223;refine(E.out _ t.out).mono ?_;rintro e w4 ⟨rfl,u⟩))
  go_roundg m
  case measure=>omega
  exact⟨S,p,rfl,j,t.out.below u,((l.trans (y.more (by simp))).trans z).newer (zc.of (M:=[]) u) (by simp)⟩
 rw[za f] at q;simp only[zr,yc] at q;obtain⟨X,T⟩:=q;have D:Hid (C=i/\b=decide (o≥i.vars)):=⟨X.symm,T.symm⟩;clear X T;by_cases g1:0<=o
 .by_cases g2:o<(i.vars:Int)
  .have g3:¬o<5:=by omega
   go_wp2;go_ret;exact⟨by rw[D.out.2];first|(simp;done)|(simp;omega),by rw[D.out.1];exact c.out,l⟩
  go_wp2;go_ret;exact⟨by rw[D.out.2];first|(simp;done)|(simp;omega),by rw[D.out.1];exact c.out,l⟩
 go_wp2;go_ret;exact⟨by rw[D.out.2];first|(simp;done)|(simp;omega),by rw[D.out.1];exact c.out,l⟩
def RR.setDepth{w:World}{a:Nat}{P:x9}(h:RR lo w a J P)(m:Int):RR lo (w.setCell ⟨a,26,none⟩ (ι m)) a {J with ql:=m} P:=by
 obtain⟨b,g,j⟩:=h.jl;refine h.rebox (zc.set _ _ _ _) ?_ rfl rfl rfl rfl rfl h.jl;obtain⟨n,q,o,y,B,i⟩:=five h.hlen.1;obtain⟨p,l,C,t,z,e⟩:=five b;obtain⟨u,v,E,k,x,f⟩:=five g;obtain⟨s,A,D,F,r,d⟩:=five j;have c:=h.box.set 26 (ι m);simpa [uw,i,e,f,d] using c
def Tp(w:World)(j:Nat)(J:z7)(P:x9)(n:Nat)(r:z7)(b:Bool)(h:RR lo w j J P)(f:fB n J=some (r,b)):
  Calls prog 215 #[(π j)] w λe s=>e=ε (.bool b)/\RR lo s j r P/\zc (j::P.sv.ownBlock.toList) w s:=by
 unfold fB at f;rcases m:qS n J J.ql with _|v;rw[m] at f;cases f;obtain⟨q,p⟩:=v;rw[m] at f;simp only[zr,yc] at f;obtain⟨x,rfl⟩:=f;have i:=Ry (KC w j J P n q p h m);have t:=Ry x.symm;cases p
 .go_enter func215,ntmps215;go_wp2_with (go_at_call 224;refine i.out.mono ?_;rintro e u ⟨rfl,a,d⟩;have c:=Ry a;obtain⟨o,l,_,_,_,_,_,k,g,_⟩:=a.at;clear a)
  go_ret;exact⟨rfl,by rw[t.out];exact c.out.setDepth (-1),d.trans ((zc.set _ _ _ _).more (by simp))⟩
 go_enter func215,ntmps215;go_wp2_with (go_at_call 224;refine i.out.mono ?_;rintro e u ⟨rfl,a,d⟩;have c:=Ry a;obtain⟨o,l,_,_,_,_,_,k,g,_⟩:=a.at;clear a)
 go_ret;exact⟨rfl,by rw[t.out];exact(c.out.setDepth (-1)).setDepth q.last,(d.trans ((zc.set _ _ _ _).more (by simp))).trans ((zc.set _ _ _ _).more (by simp))⟩
end
section
open Go.Proofs.Tryz
variable {lo:Nat}
def Hp(w:World)(a:Nat)(J:z7)(P:x9)(h:RR lo w a J P):
  Calls prog 217 #[(π a)] w λe f=>e=ε (ι J.jg)/\f=w:=by
 obtain⟨d,c,_,_,_,_,_,_,_,b⟩:=h.at;clear h;go_enter func217,ntmps217;go_wp2;go_ret;exact⟨rfl,rfl⟩
def N2(w:World)(o:Nat)(J:z7)(P:x9)(h:RR lo w o J P):
  Calls prog 216 #[(π o)] w λr E=>r=ε (.agg #[ι ((R0 J.head J.jd 0:Nat):Int),ι ((R0 J.head J.jd 1:Nat):Int),ι ((R0 J.head J.jd 2:Nat):Int)])/\μ w E:=by
 obtain⟨M,D,K,i,_⟩:=h.at;obtain⟨a,b,c,d,e,f⟩:=five h.jl.2.1;have I:=(h.vals 0 (by omega)).1;have H:=(h.vals 1 (by omega)).1;have G:=(h.vals 2 (by omega)).1;have B:=(h.vals 3 (by omega)).1;have y:=(h.vals 4 (by omega)).1;rw[f] at I H G B y ⊢;obtain⟨L,s,l⟩:=h.head.qy;have q:=h.head;rw[l] at i q;have m:=Ry λW A=>ik W _ J.head.pred J.head.qg a b c d e (q.below A);generalize R0 J.head [a,b,c,d,e] 0=u at *;generalize R0 J.head [a,b,c,d,e] 1=t at *;generalize R0 J.head [a,b,c,d,e] 2=C at *;go_enter func216,ntmps216;go_wp2;go_region_with (go_at_call 161;refine(m.out _ (by exact(by go_grown))).mono ?_;rintro r x ⟨rfl,g⟩;have k:μ w x:=(zM (by go_grown) g (zf _));have j:=(Rz.drew (Rz.new w #[ι 0,ι 0,ι 0] 165)).below g;obtain⟨n,z,F⟩:=j.boxed)
 all_goals
  go_wp2;exact zO (v:=.agg #[ι u,ι t,ι C]) (by simp[results,results216,go_sem,n]) rfl ⟨rfl,((k.setCell (p:=⟨w.heap.size,0,none⟩) (by simp) _).setCell (p:=⟨w.heap.size,1,none⟩) (by simp) _).setCell (p:=⟨w.heap.size,2,none⟩) (by simp) _⟩
def Rq:(prog.info? 327).map (λi=>(i.zero,i.size,i.bytes))=some (some (.agg #[ι 0,ι 0]),2,16):=by kernel_rfl
def dS(b:Nat)(x:zw×Nat):Option (Nat×Nat):=(yV x.1 b).map λa=>(x.2,a)
def FZ(r:zs)(a:Nat):xn r a=r.qc.zipIdx.filterMap (dS a):=rfl
def JQ(a:List zw)(b k:Nat)(d:k<a.length):(a.take (k+1)).zipIdx.filterMap (dS b)=(a.take k).zipIdx.filterMap (dS b)++((yV a[k] b).map λc=>(k,c)).toList:=by
 rw[yP d,List.zipIdx_append,wG];congr 1;simp only[List.zipIdx_singleton,qG,vn,sq,List.filterMap_nil,dS];rw[fF (by omega)];cases yV a[k] b<;>rfl
def Nv(hs:List (Nat×Nat))(x:Nat×Nat):km (hs++[x])=km hs++[ι (x.1:Nat),ι (x.2:Nat)]:=by simp[km]
def KM(w:World)(tv M P:Value)(r:zs)(b:Nat)(h:vx lo w tv M P r)(X:b<=1000000):
  Calls prog 221 #[kQ r tv M P,ι b] w λe t=>∃K,e=.returned K/\t.ownsRow w.heap.size 327 2 K (xn r b).length (km (xn r b))/\μ w t:=by
 obtain⟨V,hi,G,D,y⟩:=info_parts Rq;obtain⟨ac,I,rfl⟩:=h.qc.qy;have ab:=h.qc.len;have hP:=h.qc;have HE:Hid (xn r b=r.qc.zipIdx.filterMap (dS b)):=rfl;unfold kQ;clear h;generalize r.qc=c at *;go_enter func221,ntmps221;go_wp2;go_loopw [5,13] (λv5 z wr=>∃k:Nat,k<=c.length/\z=ι k/\wr.ownsRow w.heap.size 327 2 v5 ((c.take k).zipIdx.filterMap (dS b)).length (km ((c.take k).zipIdx.filterMap (dS b)))/\μ w wr) (λ_ i _=>c.length-(intOf i).toNat);exact⟨0,zv _,rfl,yW _ _ _ _,(by go_grown)⟩;obtain⟨k,hk,rfl,a,f⟩:=hrel;have L:=f.size;have Q:((c.take k).zipIdx.filterMap (dS b)).length<=k:=by
  have:=sA (dS b) (c.take k).zipIdx;simp at this;omega
 by_cases q:k<c.length
 .obtain⟨g,E,p,v,H,N,J,O⟩:=hP.cell k q;subst v;have U:=zl f H N;have Y:=zl f H J;have aa:g<wr.heap.size:=by omega
  have u:=Ry (JQ c b k q);have m:Hid (∀W,μ w W->Calls prog 187 #[.agg #[ι (c[k].pred:Nat),.slice E c[k].qg.length p],ι b] W λe t=>e=ε (.tuple #[ι (((yV c[k] b).getD 0:Nat):Int),.bool (yV c[k] b).isSome])/\μ W t):=λW S=>DZ W _ c[k].pred b c[k].qg (O.below S) X;clear N J O;generalize c[k]=l at *;generalize (c.take k).zipIdx.filterMap (dS b)=C at *;generalize yV l b=Z at *;rcases Z with _|lv
  .simp only[Option.map_none,Option.toList_none,vR] at u;simp only[gM,gL] at m;go_wp2_with (go_at_call 187;refine(m.out _ (by exact(by go_grown))).mono ?_;rintro e s ⟨rfl,n⟩;have d:μ wr s:=(zM (by go_grown) n (zf _)))
   go_roundw;exact⟨k+1,by omega,by go_num,by rw[u.out];exact zB a d,R5 f d⟩;simp[intOf];omega
  simp only[jC,Option.toList_some] at u;simp only[uL,kc] at m;obtain⟨B,o,rfl⟩:=zq a;go_wp2_with (first|(go_at_call 187;refine(m.out _ (by exact(by go_grown))).mono ?_;rintro e s ⟨rfl,n⟩;have d:μ wr s:=(zM (by go_grown) n (zf _));have j:=zB a d;have ad:=d.size)|(at_builtin;refine ko s _ [ι k,ι lv] _ rfl (.tmp 25) (.tmp 29) 307 rfl w.heap.size 327 V _ 2 16 underlying307 hi G D y rfl (by decide) (.slice B C.length o) C.length (km C) rfl j (zp _ _) _ _ rfl (by simp) rfl (by simp[Value.oneCell']) (by omega) (by omega) (by omega) ?_;intro v' w3 A F R))
  go_roundw;exact⟨k+1,by omega,by go_num,by rw[u.out,Nv,yC];exact A,(R5 f d).trans (F.below (λx T=>yX j (xb T)) (by omega))⟩;simp[intOf];omega
 rw[xk (by omega)] at a;go_wp2;go_ret;exact⟨_,rfl,by rw[HE.out];exact a,f⟩
end
section
variable {lo:Nat}{w w':World}{base tb b0:Nat}{v:Value}{xs:List Value}{c:Array Value}{T:zj}{fp:List Nat}
abbrev zn:=Nat×Nat×Nat
def Su(t:TypeId):Prop:=t≠229/\t≠273/\t≠3
instance (t:TypeId):Decidable (Su t):=by unfold Su;infer_instance
def Om(w:World)(b:Nat):Prop:=∃c t,Rz w b c t/\¬Su t
def ty{t:TypeId}(h:t=229∨t=273∨t=3):¬Su t:=by
 rintro⟨a,b,c⟩;rcases h with h|h|h;exact a h;exact b h;exact c h
def jL{e:TypeId}{a n:Nat}(h:w.ownsRow base e a v n xs){b:Nat}(d:v.ownBlock=some b):∃c,Rz w b c e:=by
 obtain⟨_,⟨f,_⟩|⟨g,i,j,f,_,k,_⟩⟩:=h;subst f;cases d;subst f;simp only[Value.ownBlock,zr] at d;subst d;exact⟨_,k⟩
def Rz.type{b:Nat}{e:Array Value}{t d:TypeId}(h:Rz w b c t)(a:Rz w b e d):t=d:=by
 unfold Rz at h a;rw[h] at a;simp at a;exact a.2
def ya.typed(h:ya lo w tb T fp):∀b∈fp,Om w b:=by
 obtain⟨j,k,d,rfl⟩:=h;intro b a;simp only[S3,zy,zW] at a;rcases a with a|a|a;subst a;exact⟨_,_,d.box,ty (zh rfl)⟩;obtain⟨c,f⟩:=jL d.qi (xb a);exact⟨_,_,f,ty (ze (zh rfl))⟩;obtain⟨i,g,e|e⟩:=Aj a;obtain⟨c,f⟩:=jL (d.leap i (by rw[←d.len];exact g) g) (b:=b) (by rw[e];rfl);exact⟨_,_,f,ty (ze (ze rfl))⟩;obtain⟨c,f⟩:=jL (d.down i (by rw[←d.len];exact g) g) (b:=b) (by rw[e];rfl);exact⟨_,_,f,ty (ze (ze rfl))⟩
def xa(lo:Nat)(w:World)(own:Nat->zn)(ρ:zn)(tb:Nat)(T:zj):Prop:=∃fp,ya lo w tb T fp/\∀b∈fp,own b=ρ
structure R9 (lo:Nat) (ok:TypeId->zn->Prop) (w:World) (own:Nat->zn) (w':World) (own':Nat->zn):Prop where
 old:∀b,b<w.heap.size->own' b=own b
 save:∃M,zc M w w'/\∀b∈M,lo<=b/\b<w.heap.size/\∃c t,Rz w b c t/\ok t (own b)
def onT(rs:zn->Prop):TypeId->zn->Prop:=λt ρ=>¬Su t/\rs ρ
def gO(l:List TypeId):TypeId->zn->Prop:=λt _=>t∈l
def orK(a b:TypeId->zn->Prop):TypeId->zn->Prop:=λt ρ=>a t ρ∨b t ρ
def R9.of{ok:TypeId->zn->Prop}{w w':World}(own:Nat->zn)(a:μ w w'):R9 lo ok w own w' own:=⟨λ_ _=>rfl,[],zc.of a,by simp⟩
def R9.refl{ok:TypeId->zn->Prop}(w:World)(own:Nat->zn):R9 lo ok w own w own:=R9.of own (zp _ _)
def R9.more{ok ok':TypeId->zn->Prop}{own own':Nat->zn}(h:R9 lo ok w own w' own')(hs:∀t ρ,ok t ρ->ok' t ρ):R9 lo ok' w own w' own':=by
 obtain⟨i,M,k,e⟩:=h;refine⟨i,M,k,λb d=>?_⟩;obtain⟨j,f,c,t,a,g⟩:=e b d;exact⟨j,f,c,t,a,hs _ _ g⟩
def R9.size{ok:TypeId->zn->Prop}{w w':World}{own own':Nat->zn}(h:R9 lo ok w own w' own'):w.heap.size<=w'.heap.size:=by
 obtain⟨_,M,a,_⟩:=h;exact a.size
def R9.trans{ok:TypeId->zn->Prop}{a b c:World}{l o q:Nat->zn}(h:R9 lo ok a l b o)(k:R9 lo ok b o c q):R9 lo ok a l c q:=by
 obtain⟨p,M,f,m⟩:=h;obtain⟨z,N,g,s⟩:=k;have u:=f.size;refine⟨λx d=>(z x (by omega)).trans (p x d),M++N.filter (·<a.heap.size),⟨g.os.trans f.os,g.tape.trans f.tape,g.output.trans f.output,zZ u g.size,λx d j=>?_⟩,λx d=>?_⟩;simp only[zW,xj,not_or,not_and,decide_eq_true_eq] at j;exact(g.block x (by omega) λi=>j.2 i d).trans (f.block x d j.1);simp only[zW,xj,decide_eq_true_eq] at d;rcases d with d|⟨d,e⟩;exact m x d;obtain⟨y,A,c,t,n,r⟩:=s x d;rw[p x e] at r;by_cases i:x∈M;exact m x i;exact⟨y,e,c,t,by unfold Rz at n ⊢;rw[←f.block x e i];exact n,r⟩
def R9.ofSave{ok:TypeId->zn->Prop}(own:Nat->zn){M:List Nat}(hs:zc M w w')(a:∀b∈M,lo<=b/\b<w.heap.size/\∃c t,Rz w b c t/\ok t (own b)):R9 lo ok w own w' own:=⟨λ_ _=>rfl,M,hs,a⟩
def R9.set{ok:TypeId->zn->Prop}{w:World}(own:Nat->zn){b:Nat}{c:Array Value}{t:TypeId}(d:Rz w b c t)(f:lo<=b)(e:ok t (own b))(o:Nat)(u:Value):R9 lo ok w own (w.setCell ⟨b,o,none⟩ u) own:=
 R9.ofSave own (zc.set _ _ _ _) (λx a=>by simp at a;subst a;exact⟨f,d.lt,_,_,d,e⟩)
def Rz.mod{ok:TypeId->zn->Prop}{own own':Nat->zn}{b:Nat}{t:TypeId}(h:Rz w b c t)(p:R9 lo ok w own w' own')(a:¬ok t (own b)):Rz w' b c t:=by
 obtain⟨_,M,g,f⟩:=p;refine h.save g λe=>?_;obtain⟨_,_,j,i,q,d⟩:=f b e;rw[h.type q] at a;exact a d
def r9{ok:TypeId->zn->Prop}{own own':Nat->zn}{e:TypeId}{a n:Nat}(h:w.ownsRow base e a v n xs)(p:R9 lo ok w own w' own')(f:∀b,v.ownBlock=some b->¬ok e (own b)):w'.ownsRow base e a v n xs:=by
 obtain⟨_,M,k,j⟩:=p;refine yK h k λb d i=>?_;obtain⟨c,l⟩:=jL h d;obtain⟨_,_,o,m,q,g⟩:=j b i;have:=f b d;rw[l.type q] at this;exact this g
def vC{ok:TypeId->zn->Prop}{own own':Nat->zn}{e:TypeId}{a n:Nat}(h:w.ownsRow base e a v n xs)(p:R9 lo ok w own w' own')(b:∀ρ,¬ok e ρ):w'.ownsRow base e a v n xs:=r9 h p λ_ _=>b _
def ya.mod{ok:TypeId->zn->Prop}{own own':Nat->zn}(h:ya b0 w tb T fp)(p:R9 lo ok w own w' own')(j:∀b∈fp,∀t,¬Su t->¬ok t (own b)):ya b0 w' tb T fp:=by
 obtain⟨_,M,i,g⟩:=p;refine h.save i λb d f=>?_;obtain⟨_,_,c,t,q,e⟩:=g b f;obtain⟨m,l,k,a⟩:=h.typed b d;rw[k.type q] at a;exact j b d t a e
def xa.mod{ok:TypeId->zn->Prop}{w w':World}{own own':Nat->zn}{ρ:zn}{tb:Nat}{T:zj}(h:xa lo w own ρ tb T)(p:R9 lo ok w own w' own')(g:∀t,¬Su t->¬ok t ρ):xa lo w' own' ρ tb T:=by
 obtain⟨fp,d,e⟩:=h;exact⟨fp,d.mod p λb a t f=>by rw[e b a];exact g t f,λb a=>(p.old b (d.lt b a).2).trans (e b a)⟩
def qX{rs:zn->Prop}{t:TypeId}(h:Su t):∀ρ,¬onT rs t ρ:=λ_ q=>q.1 h
def xa.onT{rs:zn->Prop}{w w':World}{own own':Nat->zn}{ρ:zn}{tb:Nat}{T:zj}(h:xa lo w own ρ tb T)(p:R9 lo (onT rs) w own w' own')(a:¬rs ρ):xa lo w' own' ρ tb T:=h.mod p λ_ _ q=>a q.2
def yn.mod{ok:TypeId->zn->Prop}{own own':Nat->zn}{ts:List yd}(h:yn b0 w v ts)(p:R9 lo ok w own w' own')(a:∀ρ,¬ok 284 ρ):yn b0 w' v ts:=⟨vC h.own p a,h.len,h.num⟩
def ui.mod{b0:Nat}{ok:TypeId->zn->Prop}{w w':World}{own own':Nat->zn}{v:Value}{f:List zw}(h:ui b0 w v f)(p:R9 lo ok w own w' own')(g:∀ρ,¬ok 284 ρ)(e:∀ρ,¬ok 204 ρ):ui b0 w' v f:=by
 obtain⟨i,l,m,j,d⟩:=h;exact⟨i,vC l p e,m,j,λk a b=>⟨(d k a b).1,(d k a b).2.1.mod p g,(d k a b).2.2⟩⟩
def vx.mod{b0:Nat}{ok:TypeId->zn->Prop}{w w':World}{own own':Nat->zn}{tv e d:Value}{r:zs}(h:vx b0 w tv e d r)(p:R9 lo ok w own w' own')(b:∀ρ,¬ok 284 ρ)(a:∀ρ,¬ok 204 ρ):vx b0 w' tv e d r:=⟨h.head.mod p b,h.qc.mod p b a,h.qw.mod p b a,h.small⟩
def RG.mod{ok:TypeId->zn->Prop}{own own':Nat->zn}{a:List zi}(h:RG b0 w v a)(p:R9 lo ok w own w' own')(b:∀ρ,¬ok 165 ρ):RG b0 w' v a:=⟨vC h.1 p b,h.2⟩
def ext(own:Nat->zn)(n:Nat)(ρ:zn):Nat->zn:=λb=>if b<n then own b else ρ
def dO(own:Nat->zn)(n:Nat)(ρ:zn)(b:Nat)(h:b<n):ext own n ρ b=own b:=by simp[ext,h]
def RT.mod{own:Nat->zn}{ρ:zn}{f:zj}{d:List Nat}(h:ya lo w tb T fp)(e:∀b∈fp,own b=ρ)(k:RT lo w w' tb f fp d):
  xa lo w' (ext own w.heap.size ρ) ρ tb f/\R9 lo (onT (·=ρ)) w own w' (ext own w.heap.size ρ):=by
 refine⟨⟨d,k.trie,λb a=>?_⟩,λb a=>by simp[ext,a],fp,k.save,λb a=>⟨(h.lt b a).1,(h.lt b a).2,?_⟩⟩;unfold ext;split;rcases k.qp b a with q|q;exact e b q;omega;rfl;obtain⟨c,t,i,g⟩:=h.typed b a;exact⟨c,t,i,g,e b a⟩
def R9.extNew{ok:TypeId->zn->Prop}(own:Nat->zn)(ρ:zn)(a:μ w w'):R9 lo ok w own w' (ext own w.heap.size ρ):=⟨λb h=>by simp[ext,h],[],zc.of a,by simp⟩
def ya.low{a b:Nat}{w:World}{tb:Nat}{T:zj}{fp:List Nat}(h:ya b w tb T fp)(e:a<=b):ya a w tb T fp:=by
 obtain⟨g,f,d,rfl⟩:=h;exact⟨g,f,⟨zZ e d.low,d.box,yk d.qi e,d.len,λi a b=>yk (d.leap i a b) e,λi a b=>yk (d.down i a b) e,d.apart,d.wide,d.many,d.deep,d.few⟩,rfl⟩
def ya.new(own:Nat->zn)(ρ:zn)(h:ya w.heap.size w' tb T fp)(a:lo<=w.heap.size):xa lo w' (ext own w.heap.size ρ) ρ tb T:=
 ⟨fp,h.low a,λb d=>by have:=(h.lt b d).1;simp[ext,Nat.not_lt.2 this]⟩
def xa.below{own:Nat->zn}{ρ:zn}(h:xa lo w own ρ tb T)(a:μ w w'):xa lo w' own ρ tb T:=h.mod (R9.of (ok:=λ_ _=>False) own a) (λ_ _=>id)
def xa.set{w:World}{own:Nat->zn}{ρ:zn}{tb:Nat}{T:zj}(h:xa lo w own ρ tb T){b:Nat}{c:Array Value}{t:TypeId}(g:Rz w b c t)(f:Su t)(o:Nat)(u:Value):xa lo (w.setCell ⟨b,o,none⟩ u) own ρ tb T:=by
 obtain⟨fp,e,j⟩:=h;refine⟨fp,e.save (zc.set _ _ _ _) λx i d=>?_,j⟩;simp at d;subst d;obtain⟨l,k,q,a⟩:=e.typed x i;rw[q.type g] at a;exact a f
end
section
variable {lo:Nat}{w w':World}{v:Value}{xs:List Value}{b:Nat}{c:Array Value}{M:List Nat}
def RL(w:World)(T:TypeId)(M:List Nat):Prop:=∀b∈M,∃c,Rz w b c T
def RL.own{d:Nat}{e:TypeId}{a n:Nat}(h:w.ownsRow d e a v n xs):RL w e v.ownBlock.toList:=λ_ f=>jL h (xb f)
def RL.box{T:TypeId}(h:Rz w b c T):RL w T [b]:=λx a=>by simp at a;subst a;exact⟨c,h⟩
def yI{d:Nat}{e T:TypeId}{a n:Nat}(h:w.ownsRow d e a v n xs)(hs:zc M w w')(j:RL w T M)(l:e≠T):w'.ownsRow d e a v n xs:=
 yK h hs λb i g=>by
  obtain⟨c,k⟩:=j b g;obtain⟨m,f⟩:=jL h i;exact l (f.type k)
def Rz.saveT{e T:TypeId}(h:Rz w b c e)(hs:zc M w w')(f:RL w T M)(g:e≠T):Rz w' b c e:=
 h.save hs λd=>by
  obtain⟨i,a⟩:=f b d;exact g (h.type a)
def yn.saveT{a:Nat}{ts:List yd}{T:TypeId}(h:yn a w v ts)(hs:zc M w w')(e:RL w T M)(d:284≠T):yn a w' v ts:=⟨yI h.own hs e d,h.len,h.num⟩
def ui.saveT{f:Nat}{w w':World}{v:Value}{e:List zw}{T:TypeId}{M:List Nat}(h:ui f w v e)(hs:zc M w w')(j:RL w T M)(o:284≠T)(g:∀b,v.ownBlock=some b->b∉M):ui f w' v e:=by
 obtain⟨i,m,n,l,d⟩:=h;exact⟨i,yK m hs g,n,l,λk a b=>⟨(d k a b).1,(d k a b).2.1.saveT hs j o,(d k a b).2.2⟩⟩
def ui.saveTT{g:Nat}{f:List zw}{T:TypeId}(h:ui g w v f)(hs:zc M w w')(i:RL w T M)(o:284≠T)(e:204≠T):ui g w' v f:=by
 obtain⟨j,m,n,l,d⟩:=h;exact⟨j,yI m hs i e,n,l,λk a b=>⟨(d k a b).1,(d k a b).2.1.saveT hs i o,(d k a b).2.2⟩⟩
def vx.saveT{g:Nat}{w w':World}{tv i f:Value}{r:zs}{T:TypeId}{M:List Nat}(h:vx g w tv i f r)(hs:zc M w w')(e:RL w T M)(d:284≠T)(a:204≠T):vx g w' tv i f r:=⟨h.head.saveT hs e d,h.qc.saveTT hs e d a,h.qw.saveTT hs e d a,h.small⟩
def yn.low{a:Nat}{ts:List yd}(h:yn b w v ts)(d:a<=b):yn a w v ts:=⟨yk h.own d,h.len,h.num⟩
def ui.low{a b:Nat}{w:World}{v:Value}{e:List zw}(h:ui b w v e)(f:a<=b):ui a w v e:=by
 obtain⟨g,j,l,i,d⟩:=h;exact⟨g,yk j f,l,i,λk a b=>⟨(d k a b).1,(d k a b).2.1.low f,(d k a b).2.2⟩⟩
def vx.low{a b:Nat}{w:World}{tv f e:Value}{r:zs}(h:vx b w tv f e r)(d:a<=b):vx a w tv f e r:=⟨h.head.low d,h.qc.low d,h.qw.low d,h.small⟩
def Rz.up{T:TypeId}(h:Rz w b c T)(o:Obj):Rz (w.alloc o) b c T:=h.below ((zp _ _).alloc (zf _) o)
def Rz.at'{b':Nat}{T:TypeId}(h:Rz w b c T)(e:b=b'):Rz w b' c T:=e ▸ h
def Rz.carry{W a:World}{T:TypeId}{G:Prop}(h:Rz W b c T)(d:μ W a)(k:Rz a b c T->G):G:=k (h.below d)
end
section
open Go.Proofs.Tryz
variable {lo:Nat}
def xa.saveT{w w':World}{own:Nat->zn}{ρ:zn}{tb:Nat}{T:zj}{t:TypeId}{M:List Nat}(h:xa lo w own ρ tb T)(hs:zc M w w')(g:RL w t M)(d:Su t):xa lo w' own ρ tb T:=by
 obtain⟨f,b,j⟩:=h;refine⟨f,b.save hs λx i e=>?_,j⟩;obtain⟨c,k⟩:=g x e;obtain⟨m,l,q,a⟩:=b.typed x i;rw[q.type k] at a;exact a d
def wQ(w:World)(own:Nat->zn)(ρ:zn)(tb:Nat)(T:zj)(x y z m:Nat)(h:xa lo w own ρ tb T)(a:okT T=true):
  Calls prog 163 #[(π tb),.agg #[ι x,ι y,ι z],ι m] w λe b=>e=ε (.bool (yx T [x,y,z] m).2)/\xa lo b (ext own w.heap.size ρ) ρ tb (yx T [x,y,z] m).1/\R9 lo (onT (·=ρ)) w own b (ext own w.heap.size ρ):=by
 obtain⟨f,c,i⟩:=h;simp only[okT,uG,decide_eq_true_eq] at a;refine(Oh w tb T f x y z m c a.1 a.2).mono ?_;rintro e b ⟨rfl,g,d⟩;exact⟨rfl,d.mod c i⟩
def Fr(w:World)(own:Nat->zn)(ρ:zn)(tb:Nat)(T:zj)(n:Nat)(rs:List zi)(h:xa lo w own ρ tb T)(a:rowsG n T=some rs):
  Calls prog 78 #[(π tb)] w λe d=>∃v,e=.returned v/\RG w.heap.size d v rs/\μ w d:=by
 obtain⟨f,g,_⟩:=h;unfold rowsG at a;rcases b:lD n T with _|c;rw[b] at a;cases a;rw[b] at a;simp only at a;split at a;simp only[zr] at a;subst a;exact Ga w tb T f g n c b (by assumption);cases a
def RG.cell{s:Nat}{w:World}{v:Value}{rs:List zi}(h:RG s w v rs)(k:Nat)(d:k<rs.length):∃g f x y z,v=.slice (some ⟨g,0,none⟩) rs.length f/\g<w.heap.size/\rs[k]=[x,y,z]/\w.cell? ⟨g,k*3,none⟩=some (ι (x:Nat))/\w.cell? ⟨g,k*3+1,none⟩=some (ι (y:Nat))/\w.cell? ⟨g,k*3+2,none⟩=some (ι (z:Nat)):=by
 obtain⟨B,p⟩:=h;obtain⟨g,f,D,_,A,m⟩:=yw B (by omega);obtain⟨x,y,z,e⟩:∃x y z,rs[k]=[x,y,z]:=by
  have:=p rs[k] (zt d);match o:rs[k],this with
  |[x,y,z],_=>exact⟨x,y,z,rfl⟩
 have j:∀(rs:List zi) (k:Nat) (d:k<rs.length),(∀r∈rs,r.length=3)->rs[k]=[x,y,z]->(j8 rs)[k*3]?=some (ι x)/\(j8 rs)[k*3+1]?=some (ι y)/\(j8 rs)[k*3+2]?=some (ι z):=by
  intro rs;induction rs with
  |nil=>intro k d;simp at d
  |cons r l E=>
   intro k d n i;match k,d,i with
   |0,_,i=>simp only[gH] at i;subst i;simp[j8,Sf]
   |k+1,d,i=>
    have t:=n r (by simp);match G:r,t with
    |[a,b,c],_=>
     have:=E k (by simpa using d) (λq o=>n q (by simp[o])) (by simpa using i);simp only[j8,uA] at this ⊢;rw[show(k+1)*3=k*3+1+1+1 from by omega,show k*3+1+1+1+1=k*3+1+1+1+1 from rfl,show k*3+1+1+1+2=k*3+2+1+1+1 from by omega];simpa using this
 obtain⟨F,C,u⟩:=j rs k d p e;exact⟨g,f,x,y,z,D,A,e,m _ _ F,m _ _ C,m _ _ u⟩
structure j6 where
 tv:Value
 bb:Nat
 fb:Nat
 ab:Nat
def pt(b:Nat):Value:=(π b)
def gI(wd:Nat)(V:yF)(P:j6):List Value:=[ι V.lit.pred,P.tv,ι wd,pt P.bb,pt P.fb,pt P.ab]
structure vE (lo:Nat) (w:World) (own:Nat->zn) (k i:Nat) (V:yF) (P:j6):Prop where
 qg:yn lo w P.tv V.lit.qg
 before:xa lo w own (k+1,i,0) P.bb V.before
 qp:xa lo w own (k+1,i,1) P.fb V.qp
 all:xa lo w own (k+1,i,2) P.ab V.all
def vE.mod{ok:TypeId->zn->Prop}{w w':World}{own own':Nat->zn}{k i:Nat}{V:yF}{P:j6}(h:vE lo w own k i V P)(p:R9 lo ok w own w' own')(a:∀j t,¬Su t->¬ok t (k+1,i,j))(b:∀ρ,¬ok 284 ρ):vE lo w' own' k i V P:=
 ⟨h.qg.mod p b,h.before.mod p (a 0),h.qp.mod p (a 1),h.all.mod p (a 2)⟩
def vE.below{w w':World}{own:Nat->zn}{k i:Nat}{V:yF}{P:j6}(h:vE lo w own k i V P)(a:μ w w'):vE lo w' own k i V P:=h.mod (R9.of (ok:=λ_ _=>False) own a) (λ_ _ _=>id) (λ_=>id)
def vE.saveT{w w':World}{own:Nat->zn}{k i:Nat}{V:yF}{P:j6}{t:TypeId}{M:List Nat}(h:vE lo w own k i V P)(hs:zc M w w')(a:RL w t M)(b:Su t)(c:284≠t):vE lo w' own k i V P:=⟨h.qg.saveT hs a c,h.before.saveT hs a b,h.qp.saveT hs a b,h.all.saveT hs a b⟩
def Kb(lo:Nat)(w:World)(own:Nat->zn)(k i wd:Nat)(tv:Value)(l:zw)(e:Ending)(w':World):Prop:=∃P a,P.tv=tv/\e=ε (.agg (gI wd (kR wd l) P).toArray)/\vE lo w' a k i (kR wd l) P/\(∀b,b<w.heap.size->a b=own b)/\μ w w'
def Fo(l:zw):yZ l<=5:=by
 unfold yZ;have:=sj (p:=zJ l) (l:=List.range 5);simpa using this
def OK(w:World)(own:Nat->zn)(k i:Nat)(l:zw)(tv:Value)(wd:Nat)(h:yn lo w tv l.qg)(hl:lo<=w.heap.size)(a8:wd<=1000):
  Calls prog 204 #[.agg #[ι l.pred,tv],ι wd] w λe w'=>Kb lo w own k i wd tv l e w':=by
 obtain⟨A,c,rfl⟩:=h.qy;have HD:Hid (∀W,μ w W->Calls prog 212 #[.agg #[ι l.pred,.slice A l.qg.length c]] W λe w'=>e=ε (ι (yZ l:Nat))/\μ W w'):=λW hW=>C5 W _ l.pred l.qg (h.below hW);have HT:=Ry h;have am:Hid (kR wd l=⟨l,xd wd (yZ l),xd wd (yZ l),xd wd (yZ l)⟩):=rfl;have aC:=Fo l;have HN:=Ry λW=>oO W wd (yZ l) a8 (by omega);have HL:=Ry hl;clear h hl aC;have J:=Rz.new ((w.alloc (.cells #[ι l.pred,.slice A l.qg.length c] 204)).alloc (.cells #[ι 0,ν,ι 0,.pointer none,.pointer none,.pointer none] 301)) #[ι l.pred,.slice A l.qg.length c,ι wd,.pointer none,.pointer none,.pointer none] 301;have a:=(Rz.new (w.alloc (.cells #[ι l.pred,.slice A l.qg.length c] 204)) #[ι 0,ν,ι 0,.pointer none,.pointer none,.pointer none] 301).below ((zp _ _).alloc (zf _) (.cells #[ι l.pred,.slice A l.qg.length c,ι wd,.pointer none,.pointer none,.pointer none] 301));simp only[World.size_alloc] at J a;generalize yZ l=dl at *;go_enter func204,ntmps204;go_upto_region 3 with (first|(go_at_call 212;refine(HD.out _ (by exact(by go_grown))).mono ?_;rintro e w1 ⟨rfl,D⟩;have F:μ w w1:=(zM (by go_grown) D (zf _));have U:=J.below D;have V:=a.below D))
 clear J a D;have aA:lo<=w1.heap.size:=by have:=HL.out;have:=F.size;omega
 obtain⟨u,p,r⟩:=U.boxed;have aJ:=F.size;have ad:Hid (yn lo w1 _ l.qg):=HT.out.below F;go_upto_region 4 with (first|(go_at_call 119;refine(HN.out _).mono ?_;rintro e K ⟨f,aK,rfl,ai,s⟩;have B:=U.below s;have al:=V.below s;obtain⟨aa,ag,ax⟩:=B.boxed))
 have P:=(ya.new own (k+1,i,0) ai aA).set B (by decide) 3 (pt f);have N:zc [w.heap.size+1+1] K (K.setCell ⟨w.heap.size+1+1,3,none⟩ (pt f)):=zc.set _ _ _ _;have T:Hid (yn lo _ _ l.qg):=(ad.out.below s).saveT N (RL.box B) (by decide);have C:Rz (K.setCell ⟨w.heap.size+1+1,3,none⟩ (pt f)) (w.heap.size+1+1) #[ι l.pred,.slice A l.qg.length c,ι wd,(π f),.pointer none,.pointer none] 301:=by have q:=B.set 3 (pt f);simpa [pt] using q
 have M:=al.set_ne (show w.heap.size+1≠w.heap.size+1+1 by omega) 3 (pt f);have L:μ w (K.setCell ⟨w.heap.size+1+1,3,none⟩ (pt f)):=(R5 F s).setCell (by simp;omega) _;have aD:(K.setCell ⟨w.heap.size+1+1,3,none⟩ (pt f)).heap.size=K.heap.size:=by simp[World.setCell]
 have a3:=s.size;generalize x:ext own w1.heap.size (k+1,i,0)=n at *;have R:∀b,b<w.heap.size->n b=own b:=λb hb=>by rw[←x];exact dO _ _ _ _ (by omega)
 have af:pt f=(π f):=rfl;rw[af] at P N T C M L aD;generalize K.setCell ⟨w.heap.size+1+1,3,none⟩ ((π f))=w3 at *;clear x ai s B al aa ag ax u p r U V ad N af;have a5:lo<=w3.heap.size:=by omega
 obtain⟨u,p,r⟩:=C.boxed;go_upto_region 5 with (first|(go_at_call 119;refine(HN.out _).mono ?_;rintro e S ⟨m,aF,rfl,ao,a⟩;have t:=C.below a;have ae:=M.below a;obtain⟨au,ah,an⟩:=t.boxed))
 have ay:=(P.mod (R9.extNew (ok:=λ_ _=>False) n (k+1,i,1) a) (λ_ _=>id)).set t (by decide) 4 ((π m));have av:=(ya.new n (k+1,i,1) ao a5).set t (by decide) 4 ((π m));have Y:zc [w.heap.size+1+1] S (S.setCell ⟨w.heap.size+1+1,4,none⟩ ((π m))):=zc.set _ _ _ _;have aw:Hid (yn lo _ _ l.qg):=(T.out.below a).saveT Y (RL.box t) (by decide);have Q:Rz (S.setCell ⟨w.heap.size+1+1,4,none⟩ ((π m))) (w.heap.size+1+1) #[ι l.pred,.slice A l.qg.length c,ι wd,(π f),(π m),.pointer none] 301:=by have q:=t.set 4 ((π m));simpa using q
 have ab:=ae.set_ne (show w.heap.size+1≠w.heap.size+1+1 by omega) 4 ((π m));have ac:μ w (S.setCell ⟨w.heap.size+1+1,4,none⟩ ((π m))):=(R5 L a).setCell (by simp;omega) _;have aH:(S.setCell ⟨w.heap.size+1+1,4,none⟩ ((π m))).heap.size=S.heap.size:=by simp[World.setCell]
 have az:=a.size;generalize y:ext n w3.heap.size (k+1,i,1)=d at *;have O:∀b,b<w.heap.size->d b=own b:=λb hb=>by rw[←y,dO _ _ _ _ (by omega)];exact R b hb
 generalize S.setCell ⟨w.heap.size+1+1,4,none⟩ ((π m))=w5 at *;clear y ao a t ae au ah an u p r C M P T Y L;have a1:lo<=w5.heap.size:=by omega
 obtain⟨u,p,r⟩:=Q.boxed;go_upto_region 6 with (first|(go_at_call 119;refine(HN.out _).mono ?_;rintro e w6 ⟨o,aG,rfl,aj,j⟩;have g:=Q.below j;have ap:=ab.below j;obtain⟨ar,ak,Z⟩:=g.boxed))
 have aB:=(ay.mod (R9.extNew (ok:=λ_ _=>False) d (k+1,i,2) j) (λ_ _=>id)).set g (by decide) 5 ((π o));have a6:=(av.mod (R9.extNew (ok:=λ_ _=>False) d (k+1,i,2) j) (λ_ _=>id)).set g (by decide) 5 ((π o));have a4:=(ya.new d (k+1,i,2) aj a1).set g (by decide) 5 ((π o));have aq:zc [w.heap.size+1+1] w6 (w6.setCell ⟨w.heap.size+1+1,5,none⟩ ((π o))):=zc.set _ _ _ _;have a2:Hid (yn lo _ _ l.qg):=(aw.out.below j).saveT aq (RL.box g) (by decide);have a9:Rz (w6.setCell ⟨w.heap.size+1+1,5,none⟩ ((π o))) (w.heap.size+1+1) #[ι l.pred,.slice A l.qg.length c,ι wd,(π f),(π m),(π o)] 301:=by have q:=g.set 5 ((π o));simpa using q
 have X:=ap.set_ne (show w.heap.size+1≠w.heap.size+1+1 by omega) 5 ((π o));have a0:μ w (w6.setCell ⟨w.heap.size+1+1,5,none⟩ ((π o))):=(R5 ac j).setCell (by simp;omega) _;generalize z:ext d w5.heap.size (k+1,i,2)=H at *;have I:∀b,b<w.heap.size->H b=own b:=λb hb=>by rw[←z,dO _ _ _ _ (by omega)];exact O b hb
 generalize w6.setCell ⟨w.heap.size+1+1,5,none⟩ ((π o))=w7 at *;clear z aj j g ap ar ak Z u p r Q ab ay av aw aq ac;obtain⟨u,p,r⟩:=a9.boxed;obtain⟨a7,aE,aI⟩:=X.boxed;go_wp2
 (try simp only[Exit.inBlock,Exit.then])
 have G:zc [w.heap.size+1] w7 ((((((w7.setCell ⟨w.heap.size+1,0,none⟩ (ι l.pred)).setCell ⟨w.heap.size+1,1,none⟩ (.slice A l.qg.length c)).setCell ⟨w.heap.size+1,2,none⟩ (ι wd)).setCell ⟨w.heap.size+1,3,none⟩ ((π f))).setCell ⟨w.heap.size+1,4,none⟩ ((π m))).setCell ⟨w.heap.size+1,5,none⟩ ((π o))):=(((((zc.set _ _ _ _).trans (zc.set _ _ _ _)).trans (zc.set _ _ _ _)).trans (zc.set _ _ _ _)).trans (zc.set _ _ _ _)).trans (zc.set _ _ _ _);have E:=RL.box X;refine zO (v:=.agg #[ι l.pred,.slice A l.qg.length c,ι wd,(π f),(π m),(π o)]) (by simp[results,results204,go_sem,a7]) rfl ⟨⟨.slice A l.qg.length c,f,m,o⟩,H,rfl,by rw[am.out];rfl,?_,I,?_⟩;rw[am.out];exact⟨a2.out.saveT G E (by decide),aB.saveT G E (by decide),a6.saveT G E (by decide),a4.saveT G E (by decide)⟩;exact(((((a0.setCell (by simp) _).setCell (by simp) _).setCell (by simp) _).setCell (by simp) _).setCell (by simp) _).setCell (by simp) _
end
section
open Go.Proofs.Tryz
variable {lo:Nat}{b0 wd bb fb ab:Nat}{w w':World}{c:Array Value}{tv:Value}{own2 own3:Nat->zn}
def RG.below'{v:Value}{rs:List zi}(h:RG b0 w v rs)(a:μ w w'):RG b0 w' v rs:=⟨zB h.1 a,h.2⟩
structure VC (c:Array Value) (o wd pred:Nat) (tv:Value) (bb fb ab:Nat):Prop where
 c0:c[o]?=some (ι pred)
 c1:c[o+1]?=some tv
 c2:c[o+2]?=some (ι wd)
 c3:c[o+3]?=some ((π bb))
 c4:c[o+4]?=some ((π fb))
 c5:c[o+5]?=some ((π ab))
def VC.set{o a:Nat}(h:VC c o wd a tv bb fb ab)(b:Nat):VC (c.setIfInBounds (o+4) ((π b))) o wd a tv bb b ab:=by
 obtain⟨j,i,k,g,f,e⟩:=h;have d:=(jU.1 f).1;refine⟨?_,?_,?_,?_,?_,?_⟩;rw[sB (by omega)];exact j;rw[sB (by omega)];exact i;rw[sB (by omega)];exact k;rw[sB (by omega)];exact g;simp[d];rw[sB (by omega)];exact e
def VC.cells{g:Nat}{T:TypeId}{o a:Nat}(h:VC c o wd a tv bb fb ab)(d:Rz w g c T):g<w.heap.size/\(∀q,w.frozen? ⟨g,q,none⟩=false)/\w.cell? ⟨g,o,none⟩=some (ι a)/\w.cell? ⟨g,o+1,none⟩=some tv/\w.cell? ⟨g,o+2,none⟩=some (ι wd)/\w.cell? ⟨g,o+3,none⟩=some ((π bb))/\w.cell? ⟨g,o+4,none⟩=some ((π fb))/\w.cell? ⟨g,o+5,none⟩=some ((π ab)):=by
 obtain⟨b,e⟩:=d.rules;exact⟨d.lt,e,(b _).trans h.c0,(b _).trans h.c1,(b _).trans h.c2,(b _).trans h.c3,(b _).trans h.c4,(b _).trans h.c5⟩
def l3(k i:Nat)(ρg:zn):TypeId->zn->Prop:=λt ρ=>(¬Su t/\∃j,ρ=(k+1,i,j))∨(t=301/\ρ=ρg)
def R9.one{own own':Nat->zn}{k i j:Nat}{ρg:zn}(h:R9 lo (onT (·=(k+1,i,j))) w own w' own'):R9 lo (l3 k i ρg) w own w' own':=h.more λ_ _ q=>zh ⟨q.1,j,q.2⟩
def El:∀(l:List zi) (T R:zj) (m:Nat),xK l T=some R->∃b,xK (l.take m) T=some b/\∀h:m<l.length,okT b=true/\xK (l.take (m+1)) T=some (yx b l[m] 0).1
 |[],T,R,m,h=>⟨T,by simp[xK],λh=>by simp at h⟩
 |x::l,T,R,0,h=>by
  rw[xK] at h;by_cases a:okT T=true
  .exact⟨T,rfl,λ_=>⟨a,by simp[xK,a]⟩⟩
  .rw[za a] at h;cases h
 |x::l,T,R,m+1,h=>by
  rw[xK] at h;by_cases a:okT T=true
  .rw[zb a] at h;obtain⟨b,f,i⟩:=El l _ R m h;refine⟨b,by rw[ph,xK,zb a];exact f,λd=>?_⟩;obtain⟨g,e⟩:=i (by simpa using d);exact⟨g,by rw[ph,xK,zb a];simpa using e⟩
  .rw[za a] at h;cases h
def it:∀(l:List zi) (T R:zj) (x:zi),xK (l++[x]) T=some R->∃b,xK l T=some b/\okT b=true/\R=(yx b x 0).1
 |[],T,R,x,h=>by
  simp only[po,xK] at h;by_cases a:okT T=true
  .rw[zb a] at h;exact⟨T,rfl,a,by simpa using h.symm⟩
  .rw[za a] at h;cases h
 |y::l,T,R,x,h=>by
  rw[hO,xK] at h;by_cases a:okT T=true
  .rw[zb a] at h;obtain⟨b,e,f,d⟩:=it l _ R x h;exact⟨b,by rw[xK,zb a];exact e,f,d⟩
  .rw[za a] at h;cases h
def AE:∀(l l2:List zi) (T R:zj),xK (l++l2) T=some R->∃a,xK l T=some a
 |[],_,T,_,_=>⟨T,rfl⟩
 |y::l,l2,T,R,h=>by
  rw[hO,xK] at h;by_cases b:okT T=true
  .rw[zb b] at h;obtain⟨a,d⟩:=AE l l2 _ R h;exact⟨a,by rw[xK,zb b];exact d⟩
  .rw[za b] at h;cases h
def E7{g:Nat}{V i:yF}{d:List zi}(h:dU g wd V d=some i):∃e b f a,rowsG g V.qp=some e/\xK e V.before=some b/\xK (d.filterMap (xO V.lit)) (xd wd (yZ V.lit))=some f/\xK (d.filterMap (xO V.lit)) V.all=some a/\i={V with before:=b,qp:=f,all:=a}:=by
 unfold dU at h;split at h;cases h;rename_i e m;split at h;rename_i b f a l k j;exact⟨e,b,f,a,m,l,k,j,by simpa using h.symm⟩;cases h
def Lp(W b:World)(a:Option zi)(e d:Value):Prop:=∃fb x y z:Nat,e=(π fb)/\d=.bool a.isSome/\[x,y,z]=a.getD [0,0,0]/\W.heap.size<=fb/\Rz b fb #[ι (x:Nat),ι (y:Nat),ι (z:Nat)] 165/\μ W b
structure f8 (lo b0:Nat) (w wr:World) (own own2:Nat->zn) (k i g:Nat) (c:Array Value) (l:zw) (bb fb ab:Nat) (B F A:zj) (tv rv:Value) (rows:List zi):Prop where
 before:xa lo wr own2 (k+1,i,0) bb B
 qp:xa lo wr own2 (k+1,i,1) fb F
 all:xa lo wr own2 (k+1,i,2) ab A
 qg:yn lo wr tv l.qg
 mod:R9 lo (l3 k i (own g)) w own wr own2
 box:Rz wr g c 301
 rows:RG b0 wr rv rows
def f8.below{b0:Nat}{w wr w':World}{own own2:Nat->zn}{k i g:Nat}{c:Array Value}{l:zw}{bb fb ab:Nat}{B F A:zj}{tv d:Value}{a:List zi}(h:f8 lo b0 w wr own own2 k i g c l bb fb ab B F A tv d a)(b:μ wr w'):f8 lo b0 w w' own own2 k i g c l bb fb ab B F A tv d a:=
 ⟨h.before.below b,h.qp.below b,h.all.below b,h.qg.below b,h.mod.trans (R9.of own2 b),h.box.below b,h.rows.below' b⟩
def f8.addF{wr W:World}{own:Nat->zn}{k i g:Nat}{l:zw}{B F A F':zj}{e:Value}{a:List zi}(h:f8 lo b0 w wr own own2 k i g c l bb fb ab B F A tv e a)(f:μ wr W)(j:xa lo w' own3 (k+1,i,1) fb F')(b:R9 lo (onT (·=(k+1,i,1))) W own2 w' own3):f8 lo b0 w w' own own3 k i g c l bb fb ab B F' A tv e a:=by
 have d:=h.below f;exact⟨d.before.onT b (by simp),j,d.all.onT b (by simp),d.qg.mod b (qX (by decide)),d.mod.trans b.one,d.box.mod b (qX (by decide) _),d.rows.mod b (qX (by decide))⟩
def f8.addA{wr W:World}{own:Nat->zn}{k i g:Nat}{l:zw}{B F A f:zj}{e:Value}{a:List zi}(h:f8 lo b0 w wr own own2 k i g c l bb fb ab B F A tv e a)(j:μ wr W)(m:xa lo w' own3 (k+1,i,2) ab f)(b:R9 lo (onT (·=(k+1,i,2))) W own2 w' own3):f8 lo b0 w w' own own3 k i g c l bb fb ab B F f tv e a:=by
 have d:=h.below j;exact⟨d.before.onT b (by simp),d.qp.onT b (by simp),m,d.qg.mod b (qX (by decide)),d.mod.trans b.one,d.box.mod b (qX (by decide) _),d.rows.mod b (qX (by decide))⟩
def Qt{b:Nat}{T:TypeId}(h:Rz w b #[ι 0,ι 0,ι 0] T)(x y z:Nat):Rz (((w.setCell ⟨b,0,none⟩ (ι x)).setCell ⟨b,1,none⟩ (ι y)).setCell ⟨b,2,none⟩ (ι z)) b #[ι x,ι y,ι z] T:=by
 have q:=((h.set 0 (ι x)).set 1 (ι y)).set 2 (ι z);simpa using q
def Ju(lo:Nat)(w:World)(own:Nat->zn)(k i g o:Nat)(c:Array Value)(d:yF)(P:j6)(ρg:zn)(e:Ending)(w':World):Prop:=e=ε (.tuple #[])/\∃b a,vE lo w' a k i d ⟨P.tv,P.bb,b,P.ab⟩/\Rz w' g (c.setIfInBounds (o+4) ((π b))) 301/\R9 lo (l3 k i ρg) w own w' a
def FC(w:World)(own:Nat->zn)(k i g o wd aB:Nat)(c:Array Value)(V V':yF)(P:j6)(rv:Value)(a:List zi)(a2:Rz w g c 301)(aP:VC c o wd V.lit.pred P.tv P.bb P.fb P.ab)(hv:vE lo w own k i V P)(hr:RG b0 w rv a)(cl:lo<=g)(cF:lo<=w.heap.size)(cq:wd<=1000)(cE:a.length<=1048577)(hV:dU aB wd V a=some V'):
  Calls prog 206 #[.pointer (some ⟨g,o,none⟩),rv] w λe w'=>Ju lo w own k i g o c V' P (own g) e w':=by
 obtain⟨l,bN,fN,aN,d,bq,aY,bO,bt⟩:=E7 hV;obtain⟨b2,a9,rfl⟩:=zq hr.1;have HV:=Ry hv;have HR:=Ry hr;have cb:=Ry λW hW=>Fr W own (k+1,i,1) P.fb V.qp aB l (hv.qp.below hW) d;have ae:=Ry aP;have aU:=Ry bq;have ba:=Ry aY;have bc:=Ry bO;have cu:=Ry bt;have cA:l.length<=1048576:=by
  unfold rowsG at d;split at d;cases d;split at d;simp at d;subst d;assumption
  cases d
 obtain⟨ac,O,D,n,G,L,v,I⟩:=aP.cells a2;clear hV hr d bq aY bO bt aP;go_enter func206,ntmps206;go_upto_region 1 with (first|(go_at_call 78;refine(cb.out _ (by exact(by go_grown))).mono ?_;rintro e w1 ⟨ov,rfl,aH,aw⟩;obtain⟨ci,bw,rfl⟩:=zq aH.1))
 clear D n G L v I O cb hv;have aZ:Hid (R9 lo (onT (·=(k+1,i,0))) w own w1 own):=R9.of own aw;have b5:=Ry (HV.out.before.below aw);have bU:=Ry (a2.below aw);have a7:=Ry aH;have cv:=aw.size;clear aH aw;go_loopw [16] (λcn wr=>∃(m:Nat) (T:zj) (b:Nat->zn),m<=l.length/\cn=ι m/\w.heap.size<=wr.heap.size/\Hid (xK (l.take m) V.before=some T)/\Hid (xa lo wr b (k+1,i,0) P.bb T)/\Hid (R9 lo (onT (·=(k+1,i,0))) w own wr b)/\Hid (Rz wr g c 301)/\Hid (RG w.heap.size wr (.slice ci l.length bw) l)) (λi _=>l.length-(intOf i).toNat);exact⟨0,V.before,own,zv _,rfl,cv,rfl,b5,aZ,bU,a7⟩;clear aZ b5 bU a7;obtain⟨m,T,b,hm,rfl,bD,HA,HT,HM,HG,aO⟩:=hrel;by_cases ax:m<l.length
 .obtain⟨go,bI,x,y,z,t,bk,K,aI,aW,aR⟩:=aO.out.cell m ax;simp only[Value.slice.injEq] at t;have al:=t.1;clear t;subst al;obtain⟨Tm,aG,cc⟩:=El l V.before bN m aU.out;rw[HA.out] at aG;obtain rfl:T=Tm:=by simpa using aG
  obtain⟨ce,aM⟩:=cc ax;rw[K] at aM;have cw:=Ry ce;have c1:=Ry aM;clear aG cc aM ce K;obtain⟨ac,O,D,n,G,L,v,I⟩:=ae.out.cells HG.out;have aq:=Rz.new wr #[ι x,ι y,ι z] 165;have h:Hid (∀W,μ wr W->Calls prog 163 #[.pointer (some ⟨P.bb,0,none⟩),.agg #[ι x,ι y,ι z],ι 0] W λe w'=>e=ε (.bool (yx T [x,y,z] 0).2)/\xa lo w' (ext b W.heap.size (k+1,i,0)) (k+1,i,0) P.bb (yx T [x,y,z] 0).1/\R9 lo (onT (·=(k+1,i,0))) W b w' (ext b W.heap.size (k+1,i,0))):=λW hW=>wQ W b (k+1,i,0) P.bb T x y z 0 (HT.out.below hW) cw.out;clear D n G v I;go_wp2;go_region_held3 (λw'=>w'.cell? ⟨g,o+3,none⟩=some (.pointer (some ⟨P.bb,0,none⟩))/\w'.cell? ⟨wr.heap.size,0,none⟩=some (ι x)/\w'.cell? ⟨wr.heap.size,1,none⟩=some (ι y)/\w'.cell? ⟨wr.heap.size,2,none⟩=some (ι z)) (first|go_keep|(go_simp;done)) (first|(go_at_call 163;refine(h.out _ (by exact(by go_grown))).mono ?_;rintro e w4 ⟨rfl,a6,C⟩;have be:=(HG.out.below (show μ wr _ from(by go_grown))).mod C (qX (by decide) _);have bg:=(aq.drew).mod C (qX (by decide) _);obtain⟨bo,bp⟩:=bg.rules;obtain⟨_,_,_,_,_,bh,_,_⟩:=ae.out.cells be))
  have bv:=HM.out.trans ((R9.of b (show μ wr _ from(by go_grown))).trans C);have cj:=(aO.out.below' (show μ wr _ from(by go_grown))).mod C (qX (by decide));have cs:=bv.size;generalize (yx T [x,y,z] 0).2=cB at *;clear bg bo bp bh aq C aI aW aR h;go_wp2;go_roundw;exact⟨m+1,_,_,by omega,by go_num,cs,c1,a6,bv,be,cj⟩;simp[intOf];omega
 have Y:l.take m=l:=xk (by omega);rw[Y,aU.out] at HA;obtain rfl:bN=T:=by have:=HA.out;simpa using this
 clear HA Y hm aO aU;obtain⟨R,s,a1⟩:=HV.out.qg.qy;have ar:=Ry a1;obtain⟨ac,O,D,n,G,L,v,I⟩:=ae.out.cells HG.out;rw[a1] at n;have aF:Hid (yn lo wr (.slice R V.lit.qg.length s) V.lit.qg):=by have q:=HV.out.qg.mod HM.out (qX (by decide));rw[a1] at q;exact q
 have bz:=Ry (HV.out.all.onT HM.out (by simp));have aL:=Ry (HR.out.mod HM.out (qX (by decide)));have cz:=Fo V.lit;have HD:Hid (∀W,μ wr W->Calls prog 212 #[.agg #[ι V.lit.pred,.slice R V.lit.qg.length s]] W λe w'=>e=ε (ι (yZ V.lit:Nat))/\μ W w'):=λW hW=>C5 W _ V.lit.pred V.lit.qg (aF.out.below hW);have HN:=Ry λW=>oO W wd (yZ V.lit) cq (by omega);clear a1 L I cz;generalize bx:yZ V.lit=dl at *;clear bx;go_wp2;go_region_held3 (λw'=>w'.cell? ⟨g,o,none⟩=some (ι V.lit.pred)/\w'.cell? ⟨g,o+1,none⟩=some (.slice R V.lit.qg.length s)/\w'.cell? ⟨g,o+2,none⟩=some (ι wd)) (first|go_keep|(go_simp;done)) (first|(go_at_call 212;refine(HD.out _ (by exact(by go_grown))).mono ?_;rintro e J ⟨rfl,au⟩;have j:μ wr J:=(zM (by go_grown) au (zf _));have aj:=HG.out.below j;obtain⟨_,_,az,N,bS,_,_,_⟩:=ae.out.cells aj;rw[ar.out] at N)|(go_at_call 119;refine(HN.out _).mono ?_;rintro e w3 ⟨tf,cD,rfl,bW,ak⟩;have ai:=aj.below ak;obtain⟨bY,bL,bX,aE,b4,_,bM,_⟩:=ae.out.cells ai;rw[ar.out] at aE))
 have b3:lo<=J.heap.size:=by have:=j.size;have:=HM.out.size;omega
 have t:=HM.out.old g a2.lt;have bG:f8 lo b0 w (w3.setCell ⟨g,o+4,none⟩ ((π tf))) own (ext b J.heap.size (k+1,i,1)) k i g (c.setIfInBounds (o+4) ((π tf))) V.lit P.bb tf P.ab bN (xd wd dl) V.all (.slice R V.lit.qg.length s) (.slice b2 a.length a9) a:=by
  have ah:zc [g] w3 (w3.setCell ⟨g,o+4,none⟩ ((π tf))):=zc.set _ _ _ _;have an:=RL.box ai;have bs:=R5 j ak;have bi:R9 lo (λ_ _=>False) J b w3 (ext b J.heap.size (k+1,i,1)):=R9.extNew b (k+1,i,1) ak;have cm:ext b J.heap.size (k+1,i,1) g=own g:=by rw[dO _ _ _ _ (by have:=HM.out.size;have:=j.size;have:=a2.lt;omega)];exact t
  refine⟨?_,?_,?_,?_,?_,?_,?_⟩;exact((HT.out.below j).mod bi (λ_ _=>id)).saveT ah an (by decide);exact(ya.new b (k+1,i,1) bW b3).saveT ah an (by decide);exact((bz.out.below j).mod bi (λ_ _=>id)).saveT ah an (by decide);exact((aF.out.below bs)).saveT ah an (by decide);exact((HM.out.one (ρg:=own g)).trans ((R9.of b j).trans (R9.extNew b (k+1,i,1) ak))).trans (R9.set _ ai cl (ze ⟨rfl,cm⟩) _ _);exact ai.set _ _;exact⟨yI (zB aL.out.1 bs) ah an (by decide),aL.out.2⟩
 have M:=Ry (ae.out.set tf);generalize bn:c.setIfInBounds (o+4) ((π tf))=c2 at *;have cy:=Ry bn;clear bn;have aV:=Ry bG;clear bG;generalize ext b J.heap.size (k+1,i,1)=own2 at *;generalize w3.setCell ⟨g,o+4,none⟩ ((π tf))=w5 at *;clear bX aE b4 bM bY bL ak bW ai aj j az N bS HT bz aF aL HM HG HD HN t b3 ac O D n G v;have bu:=aV.out.mod.size;go_wp2;go_loopw [42] (λct wr=>∃(m:Nat) (F A:zj) (own2:Nat->zn),m<=a.length/\ct=ι m/\w.heap.size<=wr.heap.size/\Hid (xK ((a.take m).filterMap (xO V.lit)) (xd wd dl)=some F)/\Hid (xK ((a.take m).filterMap (xO V.lit)) V.all=some A)/\Hid (f8 lo b0 w wr own own2 k i g c2 V.lit P.bb tf P.ab bN F A (.slice R V.lit.qg.length s) (.slice b2 a.length a9) a)) (λi _=>a.length-(intOf i).toNat);exact⟨0,_,_,own2,zv _,rfl,bu,rfl,rfl,aV⟩;clear aV bu;obtain⟨m,F,A,own2,hm,rfl,bD,HF,HA,Q⟩:=hrel;by_cases ax:m<a.length
 .obtain⟨go,bI,x,y,z,t,bk,K,aI,aW,aR⟩:=Q.out.rows.cell m ax;simp only[Value.slice.injEq] at t;have al:=t.1;clear t;subst al;have aa:Hid ((a.take (m+1)).filterMap (xO V.lit)=(a.take m).filterMap (xO V.lit)++(xO V.lit [x,y,z]).toList):=by
   rw[Hid,yP ax,wG,K];cases hq:xO V.lit [x,y,z]<;>simp[hq]
  have aK:Hid (a.filterMap (xO V.lit)=(a.take (m+1)).filterMap (xO V.lit)++(a.drop (m+1)).filterMap (xO V.lit)):=by rw[Hid,←wG,jx]
  obtain⟨F1,bZ⟩:=AE _ _ _ _ (by have q:=ba.out;rw[aK.out] at q;exact q);obtain⟨A1,bV⟩:=AE _ _ _ _ (by have q:=bc.out;rw[aK.out] at q;exact q);have ca:=Ry bZ;have bf:=Ry bV;clear bZ bV aK K;have b7:Hid (∀W,μ wr W->Calls prog 213 #[.agg #[ι V.lit.pred,.slice R V.lit.qg.length s],.agg #[ι x,ι y,ι z]] W λr w'=>(∃B H E:Nat,r=ε (.tuple #[.agg #[ι (B:Nat),ι (H:Nat),ι (E:Nat)],.bool (xO V.lit [x,y,z]).isSome])/\[B,H,E]=(xO V.lit [x,y,z]).getD [0,0,0])/\μ W w'):=λW hW=>Mb W _ V.lit.pred V.lit.qg x y z (Q.out.qg.below hW);generalize xO V.lit [x,y,z]=om at *;obtain⟨ac,O,D,n,G,L,v,I⟩:=M.out.cells Q.out.box;rw[ar.out] at n;have aq:=Rz.new wr #[ι x,ι y,ι z] 165;clear G L v I;go_wp2;go_cut [8,9] from 46 to 54 (λs8 s9 wx=>Lp wr wx om s8 s9)
  .go_region_held3 (λw'=>w'.cell? ⟨g,o,none⟩=some (ι V.lit.pred)/\w'.cell? ⟨g,o+1,none⟩=some (.slice R V.lit.qg.length s)/\w'.cell? ⟨wr.heap.size,0,none⟩=some (ι x)/\w'.cell? ⟨wr.heap.size,1,none⟩=some (ι y)/\w'.cell? ⟨wr.heap.size,2,none⟩=some (ι z)) (first|(exact⟨(Below.cell (p:=⟨g,o,none⟩) (show Below (wr.heap.size+1) J _ from(by go_grown)) (show g<wr.heap.size+1 by omega)).trans az,(Below.cell (p:=⟨g,o+1,none⟩) (show Below (wr.heap.size+1) J _ from(by go_grown)) (show g<wr.heap.size+1 by omega)).trans N,(Below.cell (p:=⟨wr.heap.size,0,none⟩) (show Below (wr.heap.size+1) J _ from(by go_grown)) (show wr.heap.size<wr.heap.size+1 by omega)).trans ap,(Below.cell (p:=⟨wr.heap.size,1,none⟩) (show Below (wr.heap.size+1) J _ from(by go_grown)) (show wr.heap.size<wr.heap.size+1 by omega)).trans am,(Below.cell (p:=⟨wr.heap.size,2,none⟩) (show Below (wr.heap.size+1) J _ from(by go_grown)) (show wr.heap.size<wr.heap.size+1 by omega)).trans av⟩)|go_keep|(go_simp;done)) (first|(go_at_call 213;refine(b7.out _ (by exact(by go_grown))).mono ?_;rintro e J ⟨⟨B,H,E,rfl,af⟩,au⟩;have j:μ wr J:=(zM (by go_grown) au (zf _));have aj:=Q.out.box.below j;obtain⟨_,_,az,N,_,_,_,_⟩:=M.out.cells aj;rw[ar.out] at N;have bR:=Ry af;clear af;have aC:=aq.below (show Below (wr.alloc (.cells #[ι x,ι y,ι z] 165)).heap.size (wr.alloc (.cells #[ι x,ι y,ι z] 165)) J from zM (by go_grown) au (zf _));have cr:wr.heap.size+1<=J.heap.size:=aC.lt;obtain⟨u,c0⟩:=aC.rules;have ap:=u 0;have am:=u 1;have av:=u 2;clear u;simp only[lT,fz,lZ] at ap am av;(first|((with_reducible refine Rz.carry (Rz.drew (Rz.newAt (wr.alloc (.cells #[ι x,ι y,ι z] 165)) (wr.heap.size+1) #[ι 0,ι 0,ι 0] 165 (World.size_alloc _ _).symm)) au ?_);intro bH;obtain⟨c5,c6,c8⟩:=bH.boxed)|skip)))
   all_goals
    go_wp2_with fail
    go_meet
    first|exact⟨J.heap.size,B,H,E,rfl,rfl,bR.out,by omega,Rz.new _ _ _,zM j (by go_grown) (zf _)⟩|exact⟨wr.heap.size+1,B,H,E,rfl,rfl,bR.out,by omega,Qt bH B H E,((j.setCell (by simp) _).setCell (by simp) _).setCell (by simp) _⟩
  clear D n O aq aI aW aR b7;obtain⟨fb,B,H,E,rfl,rfl,af,ck,b1,aQ⟩:=hcut;have ay:=Ry (Q.out.below aQ);have bE:w.heap.size<=wc.heap.size:=by have:=aQ.size;omega
  have a0:=Ry b1;clear Q aQ b1;rcases om with _|f
  .clear af;simp only[Option.toList_none,vR] at aa;simp only[gL];go_wp2;go_roundw;exact⟨m+1,F,A,own2,by omega,by go_num,bE,by rw[Hid,aa.out];exact HF.out,by rw[Hid,aa.out];exact HA.out,ay⟩;simp[intOf];omega
  simp only[uL] at af;subst af;simp only[Option.toList_some] at aa;simp only[kc];obtain⟨Fm,Z,ao,b9⟩:=it _ _ _ _ (by have q:=ca.out;rw[aa.out] at q;exact q);obtain⟨Am,aT,bP,bJ⟩:=it _ _ _ _ (by have q:=bf.out;rw[aa.out] at q;exact q);rw[HF.out] at Z;rw[HA.out] at aT;obtain rfl:F=Fm:=by simpa using Z
  obtain rfl:A=Am:=by simpa using aT
  have bm:=Ry b9;have bK:=Ry bJ;have ch:=Ry ao;have cf:=Ry bP;clear Z aT b9 bJ ao bP;obtain⟨ac,O,D,n,G,L,v,I⟩:=M.out.cells ay.out.box;obtain⟨a3,cg⟩:=a0.out.rules;have bT:=a3 0;have Z:=a3 1;have ao:=a3 2;simp only[lT,fz,lZ] at bT Z ao;have cx:=a0.out.lt;clear a3 cg D n G L;have h:Hid (∀W,μ wc W->Calls prog 163 #[(π tf),.agg #[ι B,ι H,ι E],ι 0] W λe w'=>e=ε (.bool (yx F [B,H,E] 0).2)/\xa lo w' (ext own2 W.heap.size (k+1,i,1)) (k+1,i,1) tf (yx F [B,H,E] 0).1/\R9 lo (onT (·=(k+1,i,1))) W own2 w' (ext own2 W.heap.size (k+1,i,1))):=λW hW=>wQ W own2 (k+1,i,1) tf F B H E 0 (ay.out.qp.below hW) ch.out;go_wp2;go_region_held3 (λw'=>w'.cell? ⟨g,o+4,none⟩=some ((π tf))/\w'.cell? ⟨fb,0,none⟩=some (ι B)/\w'.cell? ⟨fb,1,none⟩=some (ι H)/\w'.cell? ⟨fb,2,none⟩=some (ι E)) (first|go_keep|(go_simp;done)) (first|(go_at_call 163;refine(h.out _ (by exact(by go_grown))).mono ?_;rintro e w4 ⟨rfl,a6,C⟩;have ad:μ wc _:=(show μ wc wc.drew from(by go_grown));have ag:=ay.out.addF ad a6 C;have a5:=(a0.out.below ad).mod C (qX (by decide) _);obtain⟨S,b8⟩:=a5.rules;have bd:=S 0;have b6:=S 1;have bB:=S 2;clear S;simp only[lT,fz,lZ] at bd b6 bB;obtain⟨_,_,_,_,_,_,c4,c3⟩:=M.out.cells ag.box))
  have cC:=ag.mod.size;have c7:=ag.box.lt;have c9:=a5.lt;have aS:=Ry ag;have co:=Ry a5;rw[←bm.out] at aS;generalize (yx F [B,H,E] 0).2=bF at *;generalize ext own2 wc.drew.heap.size (k+1,i,1)=X at *;clear ag a5 a6 C ay a0 v I bT Z ao ac O cx ad h bm b8 bE ck;have h:Hid (∀W,μ w4 W->Calls prog 163 #[.pointer (some ⟨P.ab,0,none⟩),.agg #[ι B,ι H,ι E],ι 0] W λe w'=>e=ε (.bool (yx A [B,H,E] 0).2)/\xa lo w' (ext X W.heap.size (k+1,i,2)) (k+1,i,2) P.ab (yx A [B,H,E] 0).1/\R9 lo (onT (·=(k+1,i,2))) W X w' (ext X W.heap.size (k+1,i,2))):=λW hW=>wQ W X (k+1,i,2) P.ab A B H E 0 (aS.out.all.below hW) cf.out;go_wp2;go_region_held3 (λw'=>w'.cell? ⟨g,o+5,none⟩=some (.pointer (some ⟨P.ab,0,none⟩))/\w'.cell? ⟨fb,0,none⟩=some (ι B)/\w'.cell? ⟨fb,1,none⟩=some (ι H)/\w'.cell? ⟨fb,2,none⟩=some (ι E)) (first|go_keep|(go_simp;done)) (first|(go_at_call 163;refine(h.out _ (by exact(by go_grown))).mono ?_;rintro e w6 ⟨rfl,br,aJ⟩;have ad:μ w4 _:=(show μ w4 w4.drew from(by go_grown));have a4:=aS.out.addA ad br aJ;have bC:=(co.out.below ad).mod aJ (qX (by decide) _);obtain⟨U,aX⟩:=bC.rules;have aD:=U 0;have aA:=U 1;have a8:=U 2;clear U;simp only[lT,fz,lZ] at aD aA a8;obtain⟨_,_,_,_,_,_,bQ,cd⟩:=M.out.cells a4.box))
  rw[←bK.out] at a4;have cp:=a4.mod.size;generalize (yx A [B,H,E] 0).2=bA at *;clear br aJ h bK bC aD aA a8 bQ cd aX;go_wp2;go_roundw;exact⟨m+1,F1,A1,_,by omega,by go_num,cp,ca,bf,a4⟩;simp[intOf];omega
 have Y:a.take m=a:=xk (by omega);rw[Y,ba.out] at HF;rw[Y,bc.out] at HA;obtain rfl:fN=F:=by have:=HF.out;simpa using this
 obtain rfl:aN=A:=by have:=HA.out;simpa using this
 clear HF HA Y;go_wp2
 (try simp only[Exit.inBlock,Exit.then])
 have h2:=Q.out;refine zO (results_none rfl _ _ _) rfl ⟨rfl,tf,own2,?_,?_,h2.mod⟩;rw[cu.out];exact⟨by show yn lo wr P.tv V.lit.qg;rw[ar.out];exact h2.qg,h2.before,h2.qp,h2.all⟩;rw[cy.out];exact h2.box
end
section
open Go.Proofs.Tryz
variable {lo:Nat}{w:World}{rb wd mr mx:Nat}{R:zu}
structure um where
 rv:Value
 tbs:List Nat
 fv:Value
 fvs:List Value
def RO(a:List Nat):List Value:=a.map pt
structure zY (lo:Nat) (w:World) (own:Nat->zn) (rb:Nat) (R:zu) (wd mr mx:Nat) (Q:um):Prop where
 low:lo<=rb
 box:Rz w rb #[Q.rv,ι R.count,ι R.qx,ι R.jg,ι wd,ι mr,ι mx,Q.fv] 214
 rows:w.ownsRow lo 162 1 Q.rv R.rows.length (RO Q.tbs)
 tlen:Q.tbs.length=R.rows.length
 tries:∀p (_:p<R.rows.length) (_:p<Q.tbs.length),xa lo w own (0,p,0) Q.tbs[p] R.rows[p]
 qp:w.ownsRow lo 161 1 Q.fv R.qp.length Q.fvs
 flen:Q.fvs.length=R.qp.length
 jo:∀p (_:p<R.qp.length) (_:p<Q.fvs.length),RG lo w Q.fvs[p] R.qp[p]/\∀b,Q.fvs[p].ownBlock=some b->own b=(0,p,1)
 few:R.rows.length<=1000/\R.qp.length<=1000/\R.count<=1048577/\R.qx<=1048576
 small:wd<=1000/\mr<=1048576/\mx<=1048576
def RG.modR{c:Nat}{ok:TypeId->zn->Prop}{w':World}{own own':Nat->zn}{v:Value}{a:List zi}(h:RG c w v a)(p:R9 lo ok w own w' own')(d:∀b,v.ownBlock=some b->¬ok 165 (own b)):RG c w' v a:=⟨r9 h.1 p d,h.2⟩
def zY.mod{ok:TypeId->zn->Prop}{w w':World}{own own':Nat->zn}{rb:Nat}{R:zu}{wd mr mx:Nat}{Q:um}(h:zY lo w own rb R wd mr mx Q)(p:R9 lo ok w own w' own')(g:∀ρ,¬ok 214 ρ)(i:∀ρ,¬ok 162 ρ)(f:∀ρ,¬ok 161 ρ)(e:∀q,¬ok 165 (0,q,1))(d:∀q t,¬Su t->¬ok t (0,q,0)):zY lo w' own' rb R wd mr mx Q:=by
 refine⟨h.low,h.box.mod p (g _),vC h.rows p i,h.tlen,λq a b=>(h.tries q a b).mod p (d q),vC h.qp p f,h.flen,λq a b=>⟨(h.jo q a b).1.modR p λx c=>by rw[(h.jo q a b).2 x c];exact e q,λx c=>?_⟩,h.few,h.small⟩;rw[p.old x (yA (h.jo q a b).1.1 c)];exact(h.jo q a b).2 x c
def zY.below{w':World}{own:Nat->zn}{Q:um}(h:zY lo w own rb R wd mr mx Q)(a:μ w w'):zY lo w' own rb R wd mr mx Q:=h.mod (R9.of (ok:=λ_ _=>False) own a) (λ_=>id) (λ_=>id) (λ_=>id) (λ_=>id) (λ_ _ _=>id)
def zY.at{own:Nat->zn}{Q:um}(h:zY lo w own rb R wd mr mx Q):rb<w.heap.size/\(∀o,w.frozen? ⟨rb,o,none⟩=false)/\w.cell? ⟨rb,0,none⟩=some Q.rv/\w.cell? ⟨rb,1,none⟩=some (ι R.count)/\w.cell? ⟨rb,2,none⟩=some (ι R.qx)/\w.cell? ⟨rb,3,none⟩=some (ι R.jg)/\w.cell? ⟨rb,4,none⟩=some (ι wd)/\w.cell? ⟨rb,5,none⟩=some (ι mr)/\w.cell? ⟨rb,6,none⟩=some (ι mx)/\w.cell? ⟨rb,7,none⟩=some Q.fv:=by
 obtain⟨a,b⟩:=h.box.rules;exact⟨h.box.lt,b,a 0,a 1,a 2,a 3,a 4,a 5,a 6,a 7⟩
def zY.trie{own:Nat->zn}{Q:um}(h:zY lo w own rb R wd mr mx Q)(p:Nat)(f:p<R.rows.length)(b:p<Q.tbs.length):∃g a,Q.rv=.slice (some ⟨g,0,none⟩) R.rows.length a/\g<w.heap.size/\w.cell? ⟨g,p,none⟩=some (.pointer (some ⟨Q.tbs[p],0,none⟩)):=by
 obtain⟨g,a,d,_,c,e⟩:=yw h.rows (by omega);exact⟨g,a,d,c,e p _ (by simp[RO,b,pt])⟩
def zY.frow{own:Nat->zn}{Q:um}(h:zY lo w own rb R wd mr mx Q)(p:Nat)(f:p<R.qp.length)(b:p<Q.fvs.length):∃g a,Q.fv=.slice (some ⟨g,0,none⟩) R.qp.length a/\g<w.heap.size/\w.cell? ⟨g,p,none⟩=some Q.fvs[p]:=by
 obtain⟨g,a,d,_,c,e⟩:=yw h.qp (by omega);exact⟨g,a,d,c,e p _ (by simp[b])⟩
def Ra:(prog.info? 161).map (λi=>(i.zero,i.size,i.bytes))=some (some (ν),1,24):=by kernel_rfl
def pJ(w:World)(n:Nat)(T:TypeId)(z:Value)(b:n<=maxLen):(w.alloc (.cells (madeCells #[z] n) T)).ownsRow w.heap.size T 1 (.slice (some ⟨w.heap.size,0,none⟩) n n) n (List.replicate n z):=by
 refine⟨by simp,ze ⟨w.heap.size,n,madeCells #[z] n,rfl,zf _,?_,zf _,b,by rw[size_madeCells];omega,?_⟩⟩;show(w.heap.push _)[w.heap.size]?=_;simp;apply mA;intro i;by_cases a:i<n;simp[a,madeCells,Nat.mod_one];simp[List.getElem?_take,a]
def Mt(lo:Nat)(w:World)(own:Nat->zn)(rb:Nat)(R:zu)(wd mr mx:Nat)(Q:um)(e:Ending)(w':World):Prop:=e=ε (.tuple #[])/\∃b a,zY lo w' own rb (qD R) wd mr mx ⟨Q.rv,Q.tbs,b,a⟩/\R9 lo (gO [214]) w own w' own
def SE(w:World)(own:Nat->zn)(rb:Nat)(R:zu)(wd mr mx:Nat)(Q:um)(h:zY lo w own rb R wd mr mx Q)(m:lo<=w.heap.size):
  Calls prog 120 #[(π rb)] w λe B=>Mt lo w own rb R wd mr mx Q e B:=by
 obtain⟨A,G,p,C,o⟩:=info_parts Ra;obtain⟨S,U,O,L,I,N,M,T,J,K⟩:=h.at;obtain⟨F,u,y⟩:=zq h.rows;have l:=h.few.1;have H:=Ry h;have D:=λW:World=>run_make (P:=prog) (w:=W) 212 161 A _ underlying212 G p .i64 .i64 (R.rows.length:Int) (R.rows.length:Int) (by omega) (Int.le_refl _) (by rw[o];omega) (by omega);generalize v:R.rows.length=n at *;have E:=Ry v;go_enter func120,ntmps120;go_wp2;refine zO (results_none rfl _ _ _) rfl ⟨rfl,.slice (some ⟨w.heap.size,0,none⟩) n n,List.replicate n (ν),?_,?_⟩;have i:zc [rb] w (w.setCell ⟨rb,7,none⟩ (.slice (some ⟨w.heap.size,0,none⟩) n n)):=zc.set _ _ _ _;have t:=RL.box H.out.box;have j:(w.setCell ⟨rb,7,none⟩ (.slice (some ⟨w.heap.size,0,none⟩) n n)).heap.size=w.heap.size:=by simp[World.setCell]
 have s:=H.out.box.set 7 (.slice (some ⟨w.heap.size,0,none⟩) n n);have f:=yI H.out.rows i t (by decide);have r:=λq a b=>(H.out.tries q a b).saveT i t (by decide);have d:=pJ (w.setCell ⟨rb,7,none⟩ (.slice (some ⟨w.heap.size,0,none⟩) n n)) n 161 (ν) (by unfold maxLen;omega);rw[j] at d;have g:Below (w.setCell ⟨rb,7,none⟩ (.slice (some ⟨w.heap.size,0,none⟩) n n)).heap.size (w.setCell ⟨rb,7,none⟩ (.slice (some ⟨w.heap.size,0,none⟩) n n)) ((w.setCell ⟨rb,7,none⟩ (.slice (some ⟨w.heap.size,0,none⟩) n n)).alloc (.cells (madeCells #[ν] n) 161)):=(by go_grown);have k:(qD R).qp=List.replicate n []:=by rw[qD,E.out]
 have c:(qD R).qp.length=n:=by rw[k,List.length_replicate]
 refine⟨H.out.low,by simpa [qD] using s.below g,zB f g,H.out.tlen,λq a b=>(r q a b).below g,by rw[c];exact yk d m,by rw[c];simp,λq a b=>?_,⟨H.out.few.1,by rw[c];exact l,H.out.few.2.2⟩,H.out.small⟩;simp only[k,tp];exact⟨⟨yW _ _ _ _,by simp⟩,λx z=>by cases z⟩;have j:(w.setCell ⟨rb,7,none⟩ (.slice (some ⟨w.heap.size,0,none⟩) n n)).heap.size=w.heap.size:=by simp[World.setCell]
 exact(R9.set own H.out.box H.out.low (show gO [214] 214 (own rb) from xC.2 rfl) 7 _).trans (R9.of own (by go_grown))
def CY(w:World)(own:Nat->zn)(rb:Nat)(R:zu)(wd mr mx:Nat)(Q:um)(p:Nat)(h:zY lo w own rb R wd mr mx Q)(l:p<R.rows.length)(b:p<Q.tbs.length):
  Calls prog 205 #[(π rb),ι p] w λe m=>e=ε (.pointer (some ⟨Q.tbs[p],0,none⟩))/\m=w:=by
 obtain⟨v,y,r,k,f,q,o,s,i,j⟩:=h.at;obtain⟨g,n,a,t,x⟩:=h.trie p l b;rw[a] at r;have d:(p:Int)<(R.rows.length:Int):=by omega
 have c:=h.few.1;clear h a k f q o s i j;generalize Q.tbs[p]=u at *;go_enter func205,ntmps205;go_wp2;go_ret;exact⟨rfl,rfl⟩
end
section
open Go.Proofs.Tryz
variable {lo:Nat}{r:zs}{tv sv bv:Value}{hvs:List Value}{jh:List Int}{d:Int}
def QW:(prog.info? 323).map (λi=>(i.zero,i.size,i.bytes))=some (some (.agg #[.pointer none,ι 0,ι 0,ι 0]),4,32):=by kernel_rfl
def QY:(prog.info? 325).map (λi=>(i.zero,i.size,i.bytes))=some (some (.agg #[ι 0,ν,ι 0,.pointer none]),4,48):=by kernel_rfl
def Re:(prog.info? 310).map (·.size)=some 28:=by kernel_rfl
structure jG (lo:Nat) (w:World) (J:z7) (P:x9):Prop where
 head:yn lo w P.tv J.head.qg
 ja:w.ownsRow lo 323 4 P.sv J.ja.length (y6 (List.zipWith dQ J.ja P.tbs))
 slen:P.tbs.length=J.ja.length
 tries:∀k (_:k<J.ja.length) (_:k<P.tbs.length),ya lo w P.tbs[k].1 J.ja[k].rows P.tbs[k].2
 qi:∀s∈J.ja,s.qi.length=3
 bars:w.ownsRow lo 325 4 P.bv J.bars.length (y6 (List.zipWith gz J.bars P.bps))
 blen:P.bps.length=J.bars.length
 jk:∀k (_:k<J.bars.length) (_:k<P.bps.length),yn lo w P.bps[k].1 J.bars[k].lit.qg/\ya lo w P.bps[k].2.1 J.bars[k].rows P.bps[k].2.2
 hlen:P.hvs.length=5/\J.jf.length=5
 jf:∀p (_:p<J.jf.length) (_:p<P.hvs.length),w.ownsRow lo 327 2 P.hvs[p] J.jf[p].length (km J.jf[p])/\J.jf[p].length<=1000/\∀h∈J.jf[p],h.1<=1000000/\h.2<=1000000
 jl:J.jh.length=5/\J.jd.length=5/\J.from.length=5
 few:J.ja.length<=1000/\J.bars.length<=1000/\J.vars<=1000000
def jG.join{w:World}{a:Nat}{J:z7}{P:x9}(h:jG lo w J P)(b:lo<=a)(c:Rz w a (uw J P).toArray 310):RR lo w a J P:=
 ⟨b,c,h.head,h.ja,h.slen,h.tries,h.qi,h.bars,h.blen,h.jk,h.hlen,h.jf,h.jl,h.few⟩
def jG.below{w w':World}{J:z7}{P:x9}(h:jG lo w J P)(c:μ w w'):jG lo w' J P:=
 ⟨h.head.below c,zB h.ja c,h.slen,λk a b=>(h.tries k a b).below c,h.qi,zB h.bars c,h.blen,λk a b=>⟨(h.jk k a b).1.below c,(h.jk k a b).2.below c⟩,h.hlen,λp a b=>⟨zB (h.jf p a b).1 c,(h.jf p a b).2⟩,h.jl,h.few⟩
def pw(J:z7)(P:x9)(h:P.hvs.length=5)(a:J.jh.length=5/\J.jd.length=5/\J.from.length=5):(uw J P).length=28:=by
 simp[uw,h,a.1,a.2.1,a.2.2]
def jc(r:zs)(tv sv bv:Value)(hvs:List Value)(jh:List Int)(d:Int):List Value:=
 [ι r.head.pred,tv,ι r.vars,sv,bv]++hvs++jh.map (Value.int .i64)++[ι (xE r r.vars)]++([0,0,0,0,0]:List Nat).map Sf++([0,0,0,0,0]:List Nat).map Sf++[ι d,ι 0]
def KU(a:hvs.length=5)(k:Nat)(b:k<5)(u:Value):(jc r tv sv bv hvs jh d).toArray.setIfInBounds (5+k) u=(jc r tv sv bv (hvs.set k u) jh d).toArray:=by
 obtain⟨e,g,f,c,h,rfl⟩:=five a;obtain rfl|rfl|rfl|rfl|rfl:k=0∨k=1∨k=2∨k=3∨k=4:=by omega
 all_goals simp[jc]
def GK(b:hvs.length=5)(a:jh.length=5)(k:Nat)(c:k<5)(u:Int):(jc r tv sv bv hvs jh d).toArray.setIfInBounds (10+k) (ι u)=(jc r tv sv bv hvs (jh.set k u) d).toArray:=by
 obtain⟨j,m,i,e,n,rfl⟩:=five b;obtain⟨l,f,o,g,h,rfl⟩:=five a;obtain rfl|rfl|rfl|rfl|rfl:k=0∨k=1∨k=2∨k=3∨k=4:=by omega
 all_goals simp[jc]
def I4(a:hvs.length=5)(b:jh.length=5)(u:Int):(jc r tv sv bv hvs jh d).toArray.setIfInBounds 26 (ι u)=(jc r tv sv bv hvs jh u).toArray:=by
 obtain⟨h,k,i,c,l,rfl⟩:=five a;obtain⟨j,e,m,f,g,rfl⟩:=five b;simp[jc]
def PR(u:Value):(jc r tv sv bv hvs jh d).toArray.setIfInBounds 4 u=(jc r tv sv u hvs jh d).toArray:=by simp[jc]
def GJ(b:hvs.length=5)(c:jh.length=5):(jc r tv sv bv hvs jh d).toArray[3]?=some sv/\(jc r tv sv bv hvs jh d).toArray[4]?=some bv/\(jc r tv sv bv hvs jh d).toArray[26]?=some (ι d)/\(∀k,k<5->(jc r tv sv bv hvs jh d).toArray[5+k]?=some (hvs.getD k (.bool false)))/\(∀k,k<5->(jc r tv sv bv hvs jh d).toArray[10+k]?=some (ι (jh.getD k 0))):=by
 obtain⟨i,m,j,e,n,rfl⟩:=five b;obtain⟨l,f,o,g,h,rfl⟩:=five c;refine⟨by simp[jc],by simp[jc],by simp[jc],λk a=>?_,λk a=>?_⟩
 all_goals
  obtain rfl|rfl|rfl|rfl|rfl:k=0∨k=1∨k=2∨k=3∨k=4:=by omega
  all_goals simp[jc]
def CQ:∀(a:List V4) (k:Nat) (_:k<a.length) (u:Value),(y6 a).set (k*4) u=y6 (a.modify k λy=>(u,y.2.1,y.2.2.1,y.2.2.2))
 |[],k,b,_=>by simp at b
 |y::r,0,_,u=>by simp[y6,fa]
 |y::r,k+1,b,u=>by
  have:=CQ r k (by simpa using b) u;simp only[y6,uA,fa,List.modify_succ_cons] at this ⊢;rw[show(k+1)*4=k*4+1+1+1+1 from by omega];simpa using this
def NJ(a:List V4)(y:V4):y6 (a++[y])=y6 a++[y.1,y.2.1,y.2.2.1,y.2.2.2]:=by simp[y6,fa]
def MO(c b e a:Value):∀(n i:Nat),i<n*4->(madeCells #[c,b,e,a] (n*4))[i]?=(y6 (List.replicate n (c,b,e,a)))[i]?:=by
 intro n i q;obtain⟨k,j,s,rfl⟩:∃k j,j<4/\i=k*4+j:=⟨i / 4,i%4,Nat.mod_lt _ (by decide),by omega⟩;have m:k<n:=by omega
 obtain⟨h,g,l,f⟩:=sN (List.replicate n (c,b,e,a)) k (by simpa using m);simp only[tp] at h g l f;have o:(k*4+j)%4=j:=by omega
 simp only[madeCells,Array.getElem?_map,Array.getElem?_range];rw[zb q];simp only[jC];have p:(#[c,b,e,a]:Array Value).size=4:=rfl;rw[p,o];match j,s with
 |0,_=>rw[uX,h];rfl
 |1,_=>rw[g];rfl
 |2,_=>rw[l];rfl
 |3,_=>rw[f];rfl
def Id{W:World}{g n:Nat}{T:TypeId}{f b c a:Value}(h:Rz W g (madeCells #[f,b,c,a] (n*4)) T)(k:lo<=g)(j:n<=maxLen):W.ownsRow lo T 4 (sl g n) n (y6 (List.replicate n (f,b,c,a))):=by
 refine⟨by rw[tH];simp,ze ⟨g,n,madeCells #[f,b,c,a] (n*4),rfl,k,h,zf _,j,by rw[size_madeCells],?_⟩⟩;apply mA;intro i;by_cases e:i<n*4;rw[mp,zb e,Array.getElem?_toList,MO _ _ _ _ n i e];rw[mp,za e,kM (by rw[tH];simp;omega)]
def T1(b:Nat):Value:=(π b)
def A3:V4:=(.pointer none,ι 0,ι 0,ι 0)
def ei:List Value:=[ν,ν,ν,ν,ν]
def tJ(w a:World)(r:zs)(tv:Value)(n:Nat)(s:Value):Prop:=∃b g,s=(π b)/\w.heap.size<=b/\w.heap.size<=g/\Rz a b (jc r tv (sl g n) (ν) ei [0,0,0,0,0] 0).toArray 310/\Rz a g (madeCells #[.pointer none,ι 0,ι 0,ι 0] (n*4)) 323/\μ w a
end
section
variable {lo:Nat}{w0 w:World}{b6 jb:Nat}{r:zs}{tv sv bv:Value}{hvs:List Value}{jh:List Int}{d:Int}
def Qu{l:zw}{p n:Nat}(h:yV l p=some n):n<=p:=by
 unfold yV at h;split at h;simp only[zr] at h;have:=sj (p:=zJ l) (l:=List.range p);simp at this;omega;cases h
def Ls(r:zs)(p:Nat)(i:r.qc.length<=1000)(k:p<=1000000):(xn r p).length<=1000/\∀h∈xn r p,h.1<=1000000/\h.2<=1000000:=by
 constructor;have:=sA (dS p) r.qc.zipIdx;rw[FZ];simp at this;omega;intro h c;rw[FZ,lL] at c;obtain⟨x,e,b⟩:=c;unfold dS at b;rcases a:yV x.1 p with _|f;rw[a] at b;cases b;rw[a] at b;simp only[jC,zr] at b;subst b;have g:=Qu a;have j:=List.snd_lt_of_mem_zipIdx e;simp only;omega
structure uS (lo:Nat) (w0 w:World) (b6 jb:Nat) (r:zs) (tv sv bv:Value) (hvs:List Value) (jh:List Int) (d:Int):Prop where
 box:Rz w jb (jc r tv sv bv hvs jh d).toArray 310
 hlen:hvs.length=5
 blen:jh.length=5
 res:∃c,Rz w b6 c 310/\c.size=28
 below:μ w0 w
 ne:w0.heap.size<=jb/\w0.heap.size<=b6/\jb≠b6
def uS.next{w':World}(h:uS lo w0 w b6 jb r tv sv bv hvs jh d)(a:μ w w'):uS lo w0 w' b6 jb r tv sv bv hvs jh d:=by
 obtain⟨c,e,b⟩:=h.res;exact⟨h.box.below a,h.hlen,h.blen,⟨c,e.below a,b⟩,R5 h.below a,h.ne⟩
def uS.hold(h:uS lo w0 w b6 jb r tv sv bv hvs jh d)(k:Nat)(e:k<5)(u:Value):uS lo w0 (w.setCell ⟨jb,5+k,none⟩ u) b6 jb r tv sv bv (hvs.set k u) jh d:=by
 obtain⟨c,b,a⟩:=h.res;refine⟨?_,by simpa using h.hlen,h.blen,⟨c,b.set_ne (Ne.symm h.ne.2.2) _ _,a⟩,h.below.setCell h.ne.1 _,h.ne⟩;have:=h.box.set (5+k) u;rw[KU h.hlen k e] at this;exact this
def uS.back(h:uS lo w0 w b6 jb r tv sv bv hvs jh d)(k:Nat)(e:k<5)(u:Int):uS lo w0 (w.setCell ⟨jb,10+k,none⟩ (ι u)) b6 jb r tv sv bv hvs (jh.set k u) d:=by
 obtain⟨c,b,a⟩:=h.res;refine⟨?_,h.hlen,by simpa using h.blen,⟨c,b.set_ne (Ne.symm h.ne.2.2) _ _,a⟩,h.below.setCell h.ne.1 _,h.ne⟩;have:=h.box.set (10+k) (ι u);rw[GK h.hlen h.blen k e] at this;exact this
def uS.ql(h:uS lo w0 w b6 jb r tv sv bv hvs jh d)(u:Int):uS lo w0 (w.setCell ⟨jb,26,none⟩ (ι u)) b6 jb r tv sv bv hvs jh u:=by
 obtain⟨c,b,a⟩:=h.res;refine⟨?_,h.hlen,h.blen,⟨c,b.set_ne (Ne.symm h.ne.2.2) _ _,a⟩,h.below.setCell h.ne.1 _,h.ne⟩;have:=h.box.set 26 (ι u);rw[I4 h.hlen h.blen] at this;exact this
def uS.bars(h:uS lo w0 w b6 jb r tv sv bv hvs jh d)(u:Value):uS lo w0 (w.setCell ⟨jb,4,none⟩ u) b6 jb r tv sv u hvs jh d:=by
 obtain⟨c,b,a⟩:=h.res;refine⟨?_,h.hlen,h.blen,⟨c,b.set_ne (Ne.symm h.ne.2.2) _ _,a⟩,h.below.setCell h.ne.1 _,h.ne⟩;have:=h.box.set 4 u;rw[PR] at this;exact this
def uS.save{w0 w w':World}{b6 jb:Nat}{r:zs}{tv sv bv:Value}{hvs:List Value}{jh:List Int}{d:Int}{M:List Nat}(h:uS lo w0 w b6 jb r tv sv bv hvs jh d)(hs:zc M w w')(g:∀b∈M,w0.heap.size<=b)(a:jb∉M/\b6∉M):uS lo w0 w' b6 jb r tv sv bv hvs jh d:=by
 obtain⟨c,f,e⟩:=h.res;exact⟨h.box.save hs a.1,h.hlen,h.blen,⟨c,f.save hs a.2,e⟩,h.below.trans (hs.below g h.below.size),h.ne⟩
def qM(RO:List (Nat×List Nat))(n k:Nat):List V4:=(RO.take k).map (λx=>(T1 x.1,ι 0,ι 0,ι 0))++List.replicate (n-k) A3
structure mS (b0 lo:Nat) (w:World) (v:Value) (ts:List zj) (RO:List (Nat×List Nat)):Prop where
 own:w.ownsRow b0 162 1 v ts.length (RO.map λx=>T1 x.1)
 len:RO.length=ts.length
 tries:∀k (_:k<ts.length) (_:k<RO.length),ya lo w RO[k].1 ts[k] RO[k].2
 few:ts.length<=1000
def mS.cell{c:Nat}{w:World}{v:Value}{ts:List zj}{RO:List (Nat×List Nat)}(h:mS c lo w v ts RO)(k:Nat)(j:k<ts.length)(b:k<RO.length):∃g a,v=.slice (some ⟨g,0,none⟩) ts.length a/\g<w.heap.size/\w.cell? ⟨g,k,none⟩=some (.pointer (some ⟨RO[k].1,0,none⟩)):=by
 obtain⟨g,a,f,_,e,i⟩:=yw h.own (by omega);exact⟨g,a,f,e,i k _ (by simp[b,T1])⟩
def jZ(r:zs)(k:Nat):List Int:=(List.range 5).map λp=>if p<k then xE r (p:Nat) else 0
def OS(r:zs)(k:Nat)(a:k<5):(jZ r k).set k (xE r (k:Nat))=jZ r (k+1):=by
 obtain rfl|rfl|rfl|rfl|rfl:k=0∨k=1∨k=2∨k=3∨k=4:=by omega
 all_goals rfl
def vq(r:zs)(qc qw:List zj)(d:Int):z7:={head:=r.head,vars:=r.vars,ja:=qc.map (λT=>⟨T,[0,0,0]⟩),bars:=(r.qw.zip qw).map (λx=>⟨x.1,uU x.1,x.2⟩),jf:=(List.range 5).map (xn r),jh:=(List.range 5).map (λp=>xE r (p:Nat)),last:=xE r r.vars,jd:=[0,0,0,0,0],«from»:=[0,0,0,0,0],ql:=d,jg:=0}
def kH(qc:List zj):Int:=if qc.any (λT=>T.count == 0) then -1 else 0
def Kg(r:zs)(qc qw:List zj):xB r qc qw=if uW (vq r qc qw (kH qc)) 0 then vq r qc qw (-1) else vq r qc qw (kH qc):=rfl
end
section
open Go.Proofs.Tryz
variable {lo:Nat}{W w w':World}{cs hvs:List Value}{r:zs}{jb:Nat}{nts:List (Nat×List Nat)}{bps:List (Value×Nat×List Nat)}{tv sv bv:Value}{jh:List Int}{d:Int}
def uE(W:World)(b:Nat):Prop:=∃c:Array Value,Rz W b c 310/\c.size=28
def gy(W:World)(b:Nat)(cs:List Value):World:=W.setCells b 0 cs
def Rz.sets{T:TypeId}{b:Nat}:∀(vs:List Value) (o:Nat) (w:World) (l:List Value),Rz w b l.toArray T->o+vs.length=l.length->Rz (w.setCells b o vs) b (l.take o++vs).toArray T
 |[],o,w,l,h,e=>by
  simp at e;subst e;simpa [World.setCells] using h
 |v::r,o,w,l,h,e=>by
  simp only[xr] at e;have a:Rz (w.setCell ⟨b,o,none⟩ v) b (l.set o v).toArray T:=by simpa using h.set o v
  have:=Rz.sets r (o+1) _ _ a (by simp;omega);rw[World.setCells];rw[show l.take o++v::r=(l.set o v).take (o+1)++r from by
   rw[List.take_set,yP (by omega:o<l.length),fm _ _ (by simp;omega)];simp[Nat.min_eq_left (show o<=l.length by omega)]]
  exact this
def p8{b:Nat}(h:uE W b)(e:cs.length=28):Rz (gy W b cs) b cs.toArray 310:=by
 obtain⟨c,a,f⟩:=h;have:=Rz.sets cs 0 W c.toList (by simpa using a) (by simp;omega);simpa [gy] using this
def zc.sets(b:Nat):∀(vs:List Value) (o:Nat) (w:World),zc [b] w (w.setCells b o vs)
 |[],_,w=>zc.refl _ w
 |v::r,o,w=>(zc.set w b o v).trans (zc.sets b r (o+1) _)
def rW(W:World)(b:Nat)(cs:List Value):zc [b] W (gy W b cs):=zc.sets b cs 0 W
def kp(W:World)(b:Nat)(cs:List Value)(b' o:Nat)(h:b'≠b):(gy W b cs).cell? ⟨b',o,none⟩=W.cell? ⟨b',o,none⟩:=World.cell?_setCells_out b cs 0 W _ λe=>z9 e h
def uE.there{W:World}{b:Nat}(h:uE W b):W.there b 0 28:=λj i=>by
 obtain⟨c,e,g⟩:=h;obtain⟨f,a⟩:=e.rules;rw[vn];exact⟨by rw[f,Array.getElem?_eq_getElem (by omega)];rfl,a j⟩
def bj(p vs e:Int)(b c:Option Addr)(f a h g:Nat):List Value:=[ι p,.slice b f a,ι vs,.slice c h g,ν,ν,ν,ν,ν,ν,ι 0,ι 0,ι 0,ι 0,ι 0,ι e,ι 0,ι 0,ι 0,ι 0,ι 0,ι 0,ι 0,ι 0,ι 0,ι 0,ι 0,ι 0]
def su(p vs e:Int)(b c:Option Addr)(f a h g:Nat):Value.agg #[ι p,.slice b f a,ι vs,.slice c h g,ν,ν,ν,ν,ν,ν,ι 0,ι 0,ι 0,ι 0,ι 0,ι e,ι 0,ι 0,ι 0,ι 0,ι 0,ι 0,ι 0,ι 0,ι 0,ι 0,ι 0,ι 0]=.agg (bj p vs e b c f a h g).toArray:=rfl
def PO(p vs e:Int)(b c:Option Addr)(f a h g:Nat):(bj p vs e b c f a h g).length=28:=rfl
def LD(p vs e:Int)(b c:Option Addr)(f a h g:Nat)(q:Int):(bj p vs e b c f a h g).set 0 (ι q)=bj q vs e b c f a h g:=rfl
def LJ(p vs e:Int)(i b:Option Addr)(j h g f:Nat)(a:Option Addr)(n c:Nat):(bj p vs e i b j h g f).set 1 (.slice a n c)=bj p vs e a b n c g f:=rfl
def Hl(p vs e:Int)(b c:Option Addr)(f a h g:Nat)(q:Int):(bj p vs e b c f a h g).set 2 (ι q)=bj p q e b c f a h g:=rfl
def ND(p vs f:Int)(e h:Option Addr)(g b j i:Nat)(a:Option Addr)(n c:Nat):(bj p vs f e h g b j i).set 3 (.slice a n c)=bj p vs f e a g b n c:=rfl
def LA(p vs h:Int)(b c:Option Addr)(e a g f:Nat)(q:Int):(bj p vs h b c e a g f).set 15 (ι q)=bj p vs q b c e a g f:=rfl
def uE.lt{W:World}{b:Nat}(h:uE W b):b<W.heap.size:=by obtain⟨c,a,_⟩:=h;exact a.lt
def QQ(W:World)(b:Nat)(p vs f:Int)(c e:Option Addr)(g a k i:Nat)(h:uE W b):(storeCells ⟨b,0,none⟩ (bj p vs f c e g a k i)).run prog W=.ok () (gy W b (bj p vs f c e g a k i)):=
 run_storeCells_cells (P:=prog) b 0 (bj p vs f c e g a k i) 0 W (λj l=>(h.there j l).1) (λj l=>(h.there j l).2) (by simp[bj,Value.oneCell'])
def EU(w:World)(b:Nat)(p vs f:Int)(c e:Option Addr)(g a j i:Nat)(h:b=w.heap.size):uE (w.alloc (.cells (bj p vs f c e g a j i).toArray 310)) b:=⟨_,Rz.newAt _ _ _ _ h,rfl⟩
def iH(w:World)(b:Nat)(o:Obj)(h:uE w b):uE (w.alloc o) b:=by obtain⟨c,e,a⟩:=h;exact⟨c,e.below ((zp _ _).alloc (zf _) o),a⟩
def Mv(w:World)(b:Nat):uE w.drew b↔uE w b:=Iff.rfl
def pS(w:World)(p vs e:Int)(b c:Option Addr)(f a h g:Nat):uE (w.alloc (.cells (bj p vs e b c f a h g).toArray 310)) w.heap.size:=EU _ _ _ _ _ _ _ _ _ _ _ rfl
def B6(w:World)(o:Obj)(p vs e:Int)(b c:Option Addr)(f a h g:Nat):uE ((w.alloc o).alloc (.cells (bj p vs e b c f a h g).toArray 310)) (w.heap.size+1):=EU _ _ _ _ _ _ _ _ _ _ _ (by simp)
def ek(w:World)(o:Obj)(p vs e:Int)(b c:Option Addr)(f a h g:Nat):uE ((w.alloc (.cells (bj p vs e b c f a h g).toArray 310)).alloc o) w.heap.size:=iH _ _ _ (pS _ _ _ _ _ _ _ _ _ _)
def tJ.mk'{a:World}{c:Option Addr}{f b n g:Nat}(k:uE W jb)(l:Rz W g (madeCells #[.pointer none,ι 0,ι 0,ι 0] (n*4)) 323)(h:jb≠g)(j:a.heap.size<=jb)(i:a.heap.size<=g)(e:μ a W):tJ a (gy W jb (bj (r.head.pred:Nat) (r.vars:Nat) (xE r r.vars) c (some ⟨g,0,none⟩) f b n n)) r (.slice c f b) n ((π jb)):=by
 refine⟨jb,g,rfl,j,i,p8 k rfl,l.save (rW _ _ _) (by simp;omega),e.trans ((rW _ _ _).below (by simp;omega) e.size)⟩
attribute [local go_sem] su PO LD LJ Hl ND LA QQ pS B6 ek iH Mv
def lJ(qc:List zj)(k:Nat):Int:=if (qc.take k).any (λT=>T.count == 0) then -1 else 0
def Hj(qc:List zj)(k:Nat)(a:k<qc.length):lJ qc (k+1)=if qc[k].count=0 then -1 else lJ qc k:=by
 unfold lJ;rw[yP a,List.any_append];by_cases h:qc[k].count=0;simp[h];simp[h]
def Ia(qc:List zj):lJ qc qc.length=kH qc:=by simp[lJ,kH]
def E3(RO:List (Nat×List Nat))(n k:Nat)(b:k<=n)(a:n=RO.length):(qM RO n k).length=n:=by simp[qM];omega
def G3(RO:List (Nat×List Nat))(n k:Nat)(c:k<n)(b:RO.length=n):(y6 (qM RO n k)).set (k*4) (.pointer (some ⟨(RO[k]'(by omega)).1,0,none⟩))=y6 (qM RO n (k+1)):=by
 rw[CQ _ _ (by rw[E3 RO n k (by omega) b.symm];exact c)];congr 1;unfold qM;obtain⟨m,f⟩:∃m,n-k=m+1:=⟨n-k-1,by omega⟩;rw[f,re,show n-(k+1)=m from by omega,yP (show k<RO.length by omega),vg,kz];have a:((RO.take k).map (λx=>(T1 x.1,(ι 0:Value),(ι 0:Value),(ι 0:Value)))).length=k:=by simp;omega
 apply mA;intro i;rw[List.getElem?_modify];by_cases e:k=i;subst e;rw[d9 (by omega),d9 (by omega),a,jv];simp[A3,T1];rcases dI i k with h|h;rw[rm (by omega),rm (by omega)];simp[e];rw[d9 (by omega),d9 (by omega),a];obtain⟨j,g⟩:∃j,i-k=j+1:=⟨i-k-1,by omega⟩;rw[g];simp[e]
def kj(r:zs)(qw:List zj)(k:Nat):List sT:=((r.qw.zip qw).take k).map λx=>⟨x.1,uU x.1,x.2⟩
def LC(r:zs)(qw:List zj)(k:Nat)(b:k<r.qw.length)(a:k<qw.length):kj r qw (k+1)=kj r qw k++[⟨r.qw[k],uU r.qw[k],qw[k]⟩]:=by
 unfold kj;rw[yP (by simp;omega),vg];simp
def PV(r:zs)(qw:List zj)(k:Nat)(b:k<=r.qw.length)(a:k<=qw.length):(kj r qw k).length=k:=by simp[kj];omega
def NZ(r:zs)(qw:List zj)(bps:List (Value×Nat×List Nat))(k:Nat)(c:k<r.qw.length)(a:k<qw.length)(b:bps.length=k)(tv:Value)(tb:Nat)(fp:List Nat):y6 (List.zipWith gz (kj r qw (k+1)) (bps++[(tv,tb,fp)]))=y6 (List.zipWith gz (kj r qw k) bps)++[ι (r.qw[k].pred:Nat),tv,ι (uU r.qw[k]:Nat),(π tb)]:=by
 rw[LC r qw k c a,i6 (by rw[PV r qw k (by omega) (by omega),b])];simp only[mt,List.zipWith_nil_right];rw[NJ];rfl
def ml(lo:Nat)(w:World)(r:zs)(nts:List (Nat×List Nat))(bps:List (Value×Nat×List Nat))(k:Nat):Prop:=bps.length=k/\∀i (_:i<k) (b:i<bps.length) (c:i<r.qw.length) (a:i<nts.length),yn lo w bps[i].1 r.qw[i].qg/\bps[i].2=nts[i]
def ml.snoc{k:Nat}(h:ml lo w r nts bps k)(l:k<r.qw.length)(m:k<nts.length)(j:yn lo w tv r.qw[k].qg):ml lo w r nts (bps++[(tv,nts[k].1,nts[k].2)]) (k+1):=by
 obtain⟨f,g⟩:=h;refine⟨by simp[f],λi a b c d=>?_⟩;by_cases e:i<k;rw[uD (by omega)];exact g i e (by omega) c d;obtain rfl:i=k:=by omega
 simp only[←f,nK];subst f;exact⟨j,trivial⟩
def RM(B:Nat)(w:World)(r:zs)(hvs:List Value)(k:Nat):Prop:=∀p (_:p<k) (_:p<hvs.length),w.ownsRow B 327 2 hvs[p] (xn r p).length (km (xn r p))
def RM.below{B k:Nat}(h:RM B w r hvs k)(c:μ w w'):RM B w' r hvs k:=λp a b=>zB (h p a b) c
def RM.saveT{B k:Nat}{T:TypeId}{M:List Nat}(h:RM B w r hvs k)(hs:zc M w w')(e:RL w T M)(c:327≠T):RM B w' r hvs k:=λp a b=>yI (h p a b) hs e c
def RM.set{B:Nat}{w:World}{r:zs}{hvs:List Value}{k:Nat}{c:Value}(h:RM B w r hvs k)(f:w.ownsRow B 327 2 c (xn r k).length (km (xn r k))):RM B w r (hvs.set k c) (k+1):=λp a b=>by
 by_cases e:p=k
 .subst e;rw[mw];exact f
 .rw[m8 (Ne.symm e)];exact h p (by omega) (by simpa using b)
def uS.cells{c:World}{f:Nat}(h:uS lo c w f jb r tv sv bv hvs jh d):jb<w.heap.size/\(∀o,w.frozen? ⟨jb,o,none⟩=false)/\w.cell? ⟨jb,3,none⟩=some sv/\w.cell? ⟨jb,4,none⟩=some bv/\w.cell? ⟨jb,26,none⟩=some (ι d)/\(∀k,k<5->w.cell? ⟨jb,5+k,none⟩=some (hvs.getD k (.bool false)))/\(∀k,k<5->w.cell? ⟨jb,10+k,none⟩=some (ι (jh.getD k 0))):=by
 obtain⟨a,g⟩:=h.box.rules;obtain⟨i,l,j,e,m⟩:=GJ (r:=r) (tv:=tv) (sv:=sv) (bv:=bv) (d:=d) h.hlen h.blen;exact⟨h.box.lt,g,(a _).trans i,(a _).trans l,(a _).trans j,λk b=>(a _).trans (e k b),λk b=>(a _).trans (m k b)⟩
def Md(qc:List zj)(RO:List (Nat×List Nat))(h:RO.length=qc.length):qM RO qc.length qc.length=List.zipWith dQ (qc.map λT=>(⟨T,[0,0,0]⟩:yS)) RO:=by
 apply mA;intro i;rw[List.getElem?_zipWith];by_cases a:i<qc.length;simp[qM,←h,dQ,T1,List.getElem?_map,List.getElem?_eq_getElem (show i<qc.length from a),List.getElem?_eq_getElem (show i<RO.length by omega)];simp[qM,←h,List.getElem?_eq_none (show qc.length<=i by omega),List.getElem?_eq_none (show RO.length<=i by omega)]
def KN(r:zs)(qw:List zj)(h:qw.length=r.qw.length):kj r qw r.qw.length=(r.qw.zip qw).map λx=>⟨x.1,uU x.1,x.2⟩:=by
 unfold kj;rw[xk (by simp;omega)]
def ml.all{k:Nat}(h:ml lo w r nts bps k)(b:k=nts.length/\k=r.qw.length):bps.map (·.2)=nts:=by
 obtain⟨a,c⟩:=h;apply j7;simp[a,b.1];intro i f e;rw[xV];exact(c i (by omega) (by omega) (by omega) e).2
def Ft{y v:Nat}{D F l s:Value}{g:Nat}{qc qw:List zj}{RO:List (Nat×List Nat)}(j:μ w W)(c:lo<=w.heap.size)(h:vx lo w tv D F r)(m:mS y lo w l qc RO)(t:mS v lo w s qw nts)(o:qw.length=r.qw.length)(G:hvs.length=5)
  (A:RM w.heap.size W r hvs 5) (hs:W.ownsRow w.heap.size 323 4 (sl g qc.length) qc.length (y6 (qM RO qc.length qc.length))) (u:W.ownsRow w.heap.size 325 4 bv r.qw.length (y6 (List.zipWith gz (kj r qw r.qw.length) bps))) (f:ml lo w r nts bps r.qw.length):jG lo W (vq r qc qw d) ⟨tv,sl g qc.length,bv,hvs,RO,bps⟩:=by
 have i:=m.len;have C:=t.len;have z:=f.1;have e:((r.qw.zip qw).map λx=>(⟨x.1,uU x.1,x.2⟩:sT)).length=r.qw.length:=by simp;omega
 refine⟨h.head.below j,?_,by simp[vq,i],?_,by simp[vq],?_,by simp only[vq];omega,?_,⟨G,by simp[vq]⟩,?_,by simp[vq],?_⟩;rw[Md qc RO i] at hs;have:=yk hs c;simpa [vq] using this;intro k a b;simp only[vq,xY] at a;have:=(m.tries k a b).below j;simpa [vq] using this;rw[KN r qw o] at u;have:=yk u c;simp only[vq];rw[e];exact this;intro k a b;simp only[vq] at a;rw[e] at a;obtain⟨E,n⟩:=f.2 k a b a (by omega);have B:=(t.tries k (by omega) (by omega)).below j;simp only[vq,xV,List.getElem_zip];exact⟨E.below j,by rw[n];exact B⟩;intro p a b;simp only[vq,xY,rY] at a;have q:=yk (A p a b) c;have n:=Ls r p (h.qc.len) (by omega);simp only[vq,xV,fc];exact⟨q,n⟩;simp only[vq,xY];have:=m.few;have:=h.qw.len;have:=h.small.2.1;refine⟨by omega,by simp;omega,by omega⟩
def tu{e:Func}{t:Tmp}{c:TypeId}(h:e.results=#[.cell t c])(a:Array Value)(P:Program)(w:World)(b o:Nat)(f:a.getD t undef=.pointer (some ⟨b,o,none⟩)){v:Value}(g:(loadVar c ⟨b,o,none⟩).run P w=.ok v w):(results e a).run P w=.ok v w:=by
 rw[Array.getD_eq_getD_getElem?] at f;simp[results,h,f,asAddr,g]
def Rz.range{b:Nat}{T:TypeId}(h:Rz w b cs.toArray T):w.rangeAt b 0 cs:=λj v a=>by
 rw[vn,h.rules.1];simpa using a
def Bh(r:zs)(tv sv bv:Value)(hvs:List Value)(jh:List Int)(d:Int)(b:hvs.length=5)(a:jh.length=5):(jc r tv sv bv hvs jh d).length=28:=by
 simp[jc,b,a]
def F7(e:tv.oneCell'=true)(f:sv.oneCell'=true)(c:bv.oneCell'=true)(b:∀u∈hvs,u.oneCell'=true):∀u∈jc r tv sv bv hvs jh d,u.oneCell'=true:=by
 intro u a;simp only[jc,zW,zy,zE,lY,or_false] at a;rcases a with ((((((a|a)|⟨_,_,a⟩)|a)|⟨_,_,a⟩)|⟨_,_,a⟩)|a)
 rcases a with rfl|rfl|rfl|rfl|rfl<;>first|rfl|assumption
 exact b u a;subst a;rfl;subst a;rfl;subst a;rfl;subst a;rfl;rcases a with rfl|rfl<;>rfl
def RM.one{B:Nat}(h:RM B w r hvs 5)(f:hvs.length=5):∀u∈hvs,u.oneCell'=true:=by
 intro u c;obtain⟨p,b,rfl⟩:=uO c;obtain⟨g,a,e⟩:=zq (h p (by omega) b);rw[e];rfl
def rj{b:World}{a:Nat}(h:uS lo b w a jb r tv sv bv hvs jh d):uE w a:=h.res
def ya.saveJ{tb:Nat}{T:zj}{fp M:List Nat}(h:ya lo w tb T fp)(hs:zc M w w')(f:RL w 310 M):ya lo w' tb T fp:=h.save hs λb e g=>by
 obtain⟨c,a⟩:=f b g;exact h.notin a (by decide) (by decide) (by decide) e
def jG.saveJ{w w':World}{J:z7}{P:x9}{M:List Nat}(h:jG lo w J P)(hs:zc M w w')(c:RL w 310 M):jG lo w' J P:=
 ⟨h.head.saveT hs c (by decide),yI h.ja hs c (by decide),h.slen,λk a b=>(h.tries k a b).saveJ hs c,h.qi,yI h.bars hs c (by decide),h.blen,λk a b=>⟨(h.jk k a b).1.saveT hs c (by decide),(h.jk k a b).2.saveJ hs c⟩,h.hlen,λp a b=>⟨yI (h.jf p a b).1 hs c (by decide),(h.jf p a b).2⟩,h.jl,h.few⟩
def Jr{b1 b2:Nat}(w:World)(r:zs)(tv pv nv bI bE:Value)(qc qw:List zj)(RO nts:List (Nat×List Nat))(h:vx lo w tv pv nv r)(hp:mS b1 lo w bI qc RO)(hn:mS b2 lo w bE qw nts)(bO:qw.length=r.qw.length)(cp:lo<=w.heap.size):
  Calls prog 214 #[kQ r tv pv nv,bI,bE] w λe w'=>∃P,e=ε (.agg (uw (xB r qc qw) P).toArray)/\jG lo w' (xB r qc qw) P/\P.tbs=RO/\P.bps.map (·.2)=nts/\μ w w':=by
 obtain⟨iS,cR,c2,bY,cw⟩:=info_parts QW;obtain⟨iB,cG,c8,bV,bW⟩:=info_parts QY;have HR:=Ry h;have HP:=Ry hp;have HN:=Ry hn;obtain⟨d0,cY,rfl⟩:=zq hp.own;obtain⟨dn,di,rfl⟩:=zq hn.own;obtain⟨j,b,rfl⟩:=h.head.qy;obtain⟨B,o,rfl⟩:=h.qc.qy;obtain⟨D,s,rfl⟩:=h.qw.qy;have du:=hp.few;have dw:=hn.few;have dp:=h.small.2.1;have cg:=λW:World=>run_make (P:=prog) (w:=W) 305 323 iS _ underlying305 cR c2 .i64 .i64 (qc.length:Int) (qc.length:Int) (by omega) (Int.le_refl _) (by rw[cw];omega) (by omega);rw[bY] at cg;have bm:Hid (∀W (kn:Int),μ w W->Calls prog 220 #[.agg #[ι r.qh,ι r.vars,ι r.head.pred,.slice j r.head.qg.length b,.slice B r.qc.length o,.slice D r.qw.length s],ι kn] W λe w'=>e=ε (ι (xE r kn))/\μ W w'):=λW kn hW=>Il W _ _ _ r kn (h.below hW);have bL:Hid (∀W (pl:Nat),pl<=1000000->μ w W->Calls prog 221 #[.agg #[ι r.qh,ι r.vars,ι r.head.pred,.slice j r.head.qg.length b,.slice B r.qc.length o,.slice D r.qw.length s],ι pl] W λe w'=>∃hv,e=.returned hv/\w'.ownsRow W.heap.size 327 2 hv (xn r pl).length (km (xn r pl))/\μ W w'):=λW pl c6 hW=>KM W _ _ _ r pl (h.below hW) c6;have bo:=Ry cp;have a6:=Ry bO;unfold kQ;clear h hp hn cp bO;have ag:=(Rz.new w #[ι r.qh,ι r.vars,ι r.head.pred,.slice j r.head.qg.length b,.slice B r.qc.length o,.slice D r.qw.length s] 207).below ((zp _ _).alloc (zf _) (.cells (bj 0 0 0 none none 0 0 0 0).toArray 310));have R:=Rz.new (w.alloc (.cells #[ι r.qh,ι r.vars,ι r.head.pred,.slice j r.head.qg.length b,.slice B r.qc.length o,.slice D r.qw.length s] 207)) (bj 0 0 0 none none 0 0 0 0).toArray 310;have aR:μ w ((w.alloc (.cells #[ι r.qh,ι r.vars,ι r.head.pred,.slice j r.head.qg.length b,.slice B r.qc.length o,.slice D r.qw.length s] 207)).alloc (.cells (bj 0 0 0 none none 0 0 0 0).toArray 310)):=(by go_grown);simp only[World.size_alloc] at R;go_enter func214,ntmps214;go_upto_region 1 with fail
 generalize (w.alloc (.cells #[ι r.qh,ι r.vars,ι r.head.pred,.slice j r.head.qg.length b,.slice B r.qc.length o,.slice D r.qw.length s] 207)).alloc (.cells (bj 0 0 0 none none 0 0 0 0).toArray 310)=wA at *;obtain⟨c3,aT,aS⟩:=ag.boxed;have c0:=aR.size;go_cut [7] from 13 to 24 (λs7 wx=>tJ wA wx r (.slice j r.head.qg.length b) qc.length s7)
 case first=>
  go_region_held3 (λw'=>w'.cell? ⟨w.heap.size,0,none⟩=some (ι r.qh)/\w'.cell? ⟨w.heap.size,1,none⟩=some (ι r.vars)/\w'.cell? ⟨w.heap.size,2,none⟩=some (ι r.head.pred)/\w'.cell? ⟨w.heap.size,3,none⟩=some (.slice j r.head.qg.length b)/\w'.cell? ⟨w.heap.size,4,none⟩=some (.slice B r.qc.length o)/\w'.cell? ⟨w.heap.size,5,none⟩=some (.slice D r.qw.length s)) (first|go_keep|(go_simp;done)|(go_split_ands;refine⟨?_,?_,?_,?_,?_,?_⟩<;>(rw[kp _ _ _ _ _ (by simp;omega)];simp[*]))) (first|(go_at_call 220;refine(bm.out _ _ (by exact(by go_grown))).mono ?_;rintro e w1 ⟨rfl,M⟩;have bs:μ wA w1:=(zM (by go_grown) M (zf _));have cC:=ag.below bs;obtain⟨dl,cZ,de⟩:=cC.boxed;have cP:=bs.size;(first|((with_reducible refine Rz.carry (Rz.drew (Rz.newAt (wA.alloc (.cells (madeCells #[.pointer none,ι 0,ι 0,ι 0] (qc.length*4)) 323)) (wA.heap.size+1) (bj 0 0 0 none none 0 0 0 0).toArray 310 (World.size_alloc _ _).symm)) M ?_);intro aa;have a3:uE w1 (wA.heap.size+1):=⟨_,aa,rfl⟩;clear aa;(with_reducible refine Rz.carry (Rz.drew (Rz.below (Rz.new wA (madeCells #[.pointer none,ι 0,ι 0,ι 0] (qc.length*4)) 323) ((zp _ _).alloc (zf _) (.cells (bj 0 0 0 none none 0 0 0 0).toArray 310)))) M ?_);intro ar)|((with_reducible refine Rz.carry (Rz.drew (Rz.below (Rz.new wA (bj 0 0 0 none none 0 0 0 0).toArray 310) ((zp _ _).alloc (zf _) (.cells (madeCells #[.pointer none,ι 0,ι 0,ι 0] (qc.length*4)) 323)))) M ?_);intro aa;have a3:uE w1 wA.heap.size:=⟨_,aa,rfl⟩;clear aa;(with_reducible refine Rz.carry (Rz.drew (Rz.newAt (wA.alloc (.cells (bj 0 0 0 none none 0 0 0 0).toArray 310)) (wA.heap.size+1) (madeCells #[.pointer none,ι 0,ι 0,ι 0] (qc.length*4)) 323 (World.size_alloc _ _).symm)) M ?_);intro ar)|((with_reducible refine Rz.carry (Rz.drew (Rz.new wA (bj 0 0 0 none none 0 0 0 0).toArray 310)) M ?_);intro aa;have a3:uE w1 wA.heap.size:=⟨_,aa,rfl⟩;clear aa)|((with_reducible refine Rz.carry (Rz.drew (Rz.new wA (madeCells #[.pointer none,ι 0,ι 0,ι 0] (qc.length*4)) 323)) M ?_);intro ar)|skip)))
  all_goals
   go_wp2_with fail
   go_meet
   apply tJ.mk';first|exact B6 _ _ _ _ _ _ _ _ _ _ _|exact ek _ _ _ _ _ _ _ _ _ _ _|exact pS _ _ _ _ _ _ _ _ _ _|exact a3|exact iH _ _ _ a3
   first|exact ar|exact Rz.below (Rz.new w1 _ _) zP|exact Rz.newAt _ _ _ _ (World.size_alloc _ _).symm|exact Rz.new w1 _ _|exact Rz.below ar zP
   first|omega|(have:=ar.lt;omega)|(have:=a3.lt;omega)
   omega;omega;exact(zM bs (by go_grown) (zf _))
 clear cg;obtain⟨jb,g,rfl,c1,cK,bn,aY,a7⟩:=hcut;have cy:jb≠w.heap.size+1:=by have:=R.lt;omega
 have hM:uS lo w wc (w.heap.size+1) jb r (.slice j r.head.qg.length b) (sl g qc.length) (ν) ei (jZ r 0) 0:=⟨bn,rfl,rfl,⟨_,R.below a7,rfl⟩,R5 aR a7,by omega,by omega,cy⟩;have H:=Ry hM;have V:Hid (RM w.heap.size wc r ei 0):=λp a=>by omega
 have HG:=Ry aY;have G:=Ry (ag.below a7);have dv:w.heap.size<jb:=by omega
 have dz:w.heap.size<g:=by omega
 have dx:g≠jb:=by
  intro e;subst e;exact z9 (aY.type bn) (by decide)
 have dy:g≠w.heap.size+1:=by have:=R.lt;omega
 clear hM bn aY a7 ag R aR c3 aT aS c0 c1 cK;go_wp2;go_loopw [25] (λcL wr=>∃(k:Nat) (hvs:List Value),k<=5/\cL=ι k/\Hid (uS lo w wr (w.heap.size+1) jb r (.slice j r.head.qg.length b) (sl g qc.length) (ν) hvs (jZ r k) 0)/\Hid (RM w.heap.size wr r hvs k)/\Hid (Rz wr g (madeCells #[.pointer none,ι 0,ι 0,ι 0] (qc.length*4)) 323)/\Hid (Rz wr w.heap.size #[ι r.qh,ι r.vars,ι r.head.pred,.slice j r.head.qg.length b,.slice B r.qc.length o,.slice D r.qw.length s] 207)) (λi _=>5-(intOf i).toNat)
 case atStart=>exact⟨0,ei,by omega,rfl,H,V,HG,G⟩
 clear H V HG G;obtain⟨k,hvs,hk,rfl,H,V,HG,G⟩:=hrel;have C:=H.out.below;have am:=C.size;by_cases t:k<5
 .have bQ:(k:Int)<5:=by omega
  have an:=G.out;obtain⟨a5,aD,a9⟩:=an.boxed;have aJ:=Ry λW hW=>bL.out W k (by omega) (R5 C hW);have cn:=Ry λW hW=>bm.out W (k:Nat) hW;have aX:=Ry (OS r k t);generalize xE r (k:Nat)=bk at *;generalize bK:xn r k=hj at *;have cO:=Ry bK;clear bK;go_upto_region 6 with (first|(go_at_call 221;refine(aJ.out _ (by exact(by go_grown))).mono ?_;rintro e F ⟨hv,rfl,ae,l⟩;obtain⟨ap,Z,rfl⟩:=zq ae;have m:=H.out.next l;obtain⟨av,a2,_,_,_,b4,_⟩:=m.cells;have aQ:=b4 k t;clear b4;generalize hvs.getD k (.bool false)=ov at aQ))
  have ac:=an.below l;have cx:=HG.out.below l;have aw:=V.out.below l;have cX:=l.size;have A:zc [jb] F (F.setCell ⟨jb,5+k,none⟩ (.slice ap hj.length Z)):=zc.set _ _ _ _;have f:=m.hold k t (.slice ap hj.length Z);have aN:=ac.saveT A (RL.box m.box) (by decide);have bN:=cx.saveT A (RL.box m.box) (by decide);have L:RM w.heap.size _ r (hvs.set k (.slice ap hj.length Z)) (k+1):=(aw.set (by rw[cO.out];exact yk ae (by omega))).saveT A (RL.box m.box) (by decide);generalize F.setCell ⟨jb,5+k,none⟩ (.slice ap hj.length Z)=w3 at *;clear A ac cx aw m aQ a2 av an a5 aD a9 ae aJ;generalize hvs.set k (.slice ap hj.length Z)=b9 at *;have cv:=Ry f;have cA:=Ry L;have cW:=Ry bN;clear f L bN H V HG G;obtain⟨a5,aD,a9⟩:=aN.boxed;have ag:=cv.out.below;have dm:=ag.size;go_wp2_with (go_at_call 220;refine(cn.out _ (by exact ag)).mono ?_;rintro e w4 ⟨rfl,X⟩;have ai:=cv.out.next X;obtain⟨dt,ds,_,_,_,_,bX⟩:=ai.cells;have cf:=bX k t;clear bX;generalize (jZ r k).getD k 0=ob at cf)
  have be:zc [jb] w4 (w4.setCell ⟨jb,10+k,none⟩ (ι bk)):=zc.set _ _ _ _;have b5:=ai.back k t bk;rw[aX.out] at b5;go_roundw;exact⟨k+1,b9,by omega,by go_num,b5,(cA.out.below X).saveT be (RL.box ai.box) (by decide),(cW.out.below X).saveT be (RL.box ai.box) (by decide),(aN.below X).saveT be (RL.box ai.box) (by decide)⟩;simp[intOf];omega
 obtain rfl:k=5:=by omega
 rw[show((5:Nat):Int)=5 from rfl];clear hk t bL bm;have b6:Hid (wr.ownsRow w.heap.size 323 4 (sl g qc.length) qc.length (y6 (qM RO qc.length 0))):=by
  have q:=Id (lo:=w.heap.size) HG.out (by omega) (by unfold maxLen;omega);have e:qM RO qc.length 0=List.replicate qc.length (Value.pointer none,Value.int .i64 0,Value.int .i64 0,Value.int .i64 0):=by simp[qM,A3]
  rw[Hid,e];exact q
 clear HG;have cB:Hid (lJ qc 0=0):=rfl;go_wp2;have b0:Hid (uS lo w wr (w.heap.size+1) jb r (.slice j r.head.qg.length b) (sl g qc.length) (ν) hvs (jZ r 5) (lJ qc 0)):=H;clear H cB;go_loopw [43] (λcH wr=>∃(k:Nat),k<=qc.length/\cH=ι k/\Hid (uS lo w wr (w.heap.size+1) jb r (.slice j r.head.qg.length b) (sl g qc.length) (ν) hvs (jZ r 5) (lJ qc k))/\Hid (RM w.heap.size wr r hvs 5)/\Hid (wr.ownsRow w.heap.size 323 4 (sl g qc.length) qc.length (y6 (qM RO qc.length k)))/\Hid (Rz wr w.heap.size #[ι r.qh,ι r.vars,ι r.head.pred,.slice j r.head.qg.length b,.slice B r.qc.length o,.slice D r.qw.length s] 207)) (λi _=>qc.length-(intOf i).toNat)
 case atStart=>exact⟨0,zv _,rfl,b0,V,b6,G⟩
 clear b0 V b6 G C am;obtain⟨k,hk,rfl,H,V,HS,G⟩:=hrel;have C:=H.out.below;have am:=C.size;by_cases t:k<qc.length
 .have ci:k<RO.length:=by have:=HP.out.len;omega
  obtain⟨gp,cS,aZ,cI,cm⟩:=HP.out.cell k t ci;simp only[Value.slice.injEq] at aZ;have bx:=aZ.1;clear aZ;subst bx;have aV:=zl C cI cm;have dc:gp<wr.heap.size:=by omega
  obtain⟨bq,bt,bD,_,_,_,_⟩:=H.out.cells;have bZ:wr.cell? ⟨jb,3,none⟩=some (.slice (some ⟨g,0,none⟩) qc.length qc.length):=bD;have hS:wr.ownsRow w.heap.size 323 4 (.slice (some ⟨g,0,none⟩) qc.length qc.length) qc.length (y6 (qM RO qc.length k)):=HS.out;have bQ:(k:Int)<(qc.length:Int):=by omega
  have cE:=E3 RO qc.length k hk (by have:=HP.out.len;omega);obtain⟨sx,cN⟩:∃sx,wr.cell? ⟨g,k*4,none⟩=some sx:=by
   obtain⟨g',dg,cq,_,_,cl⟩:=yw hS (by omega);simp only[Value.slice.injEq,zr,Addr.mk.injEq,and_true] at cq;have c9:=cq.1;subst c9;exact⟨_,cl (k*4) _ (sN (qM RO qc.length k) k (by omega)).1⟩
  have cM:=uH hS;have az:=uj hS (k*4) (by rw[tH];omega) (.pointer (some ⟨RO[k].1,0,none⟩));have bT:Hid ((y6 (qM RO qc.length k)).set (k*4) (.pointer (some ⟨RO[k].1,0,none⟩))=y6 (qM RO qc.length (k+1))):=G3 RO qc.length k t HP.out.len;rw[bT.out] at az;have bB:=Ry λW hW=>Gp W RO[k].1 qc[k] RO[k].2 ((HP.out.tries k t ci).below hW);have aA:=Ry (Hj qc k t);have bh:zc [g] wr (wr.setCell ⟨g,k*4,none⟩ (.pointer (some ⟨RO[k].1,0,none⟩))):=zc.set _ _ _ _;have bi:RL wr 323 [g]:=λx hx=>by simp at hx;subst hx;exact jL hS rfl
  have m:=H.out.save bh (λx hx=>by simp at hx;omega) ⟨by simp;omega,by simp;omega⟩;have aw:=V.out.saveT bh bi (by decide);have ac:=G.out.saveT bh bi (by decide);generalize RO[k].1=tb at *;generalize qc[k].count=ct at *;clear bD cm bT hS cE;go_upto_region 12 with fail
  generalize wr.setCell ⟨g,k*4,none⟩ ((π tb))=F at *;have l:=m.below;clear aV bq bt bZ cN cM H V HS G;obtain⟨av,a2,_,_,aO,_,_⟩:=m.cells;have ad:=Ry m;have a8:=Ry aw;have aL:Hid (Rz F w.heap.size _ 207):=ac;clear m aw ac bi;generalize c4:lJ qc k=dk at *;clear c4;by_cases bG:ct=0
  .subst bG;simp only[if_true] at aA;have A:zc [jb] F (F.setCell ⟨jb,26,none⟩ (ι (-1))):=zc.set _ _ _ _;have f:=ad.out.ql (-1);have I:=RL.box ad.out.box;go_wp2_with (go_at_call 209;refine(bB.out _ (by exact l)).mono ?_;rintro e w3 ⟨rfl,bp⟩;obtain rfl:=bp.symm)
   go_roundw;exact⟨k+1,by omega,by go_num,by rw[aA.out];exact f,a8.out.saveT A I (by decide),yI az A I (by decide),aL.out.saveT A I (by decide)⟩;simp[intOf];omega
  rw[za bG] at aA;have dq:((ct:Int) == 0)=false:=by rw[beq_eq_false_iff_ne];omega
  go_wp2_with (go_at_call 209;refine(bB.out _ (by exact l)).mono ?_;rintro e w3 ⟨rfl,bp⟩;obtain rfl:=bp.symm)
  go_roundw;exact⟨k+1,by omega,by go_num,by rw[aA.out];exact ad,a8,az,aL⟩;simp[intOf];omega
 obtain rfl:k=qc.length:=by omega
 rw[Ia] at H;clear hk t;have an:=G.out;obtain⟨a5,aD,a9⟩:=an.boxed;go_wp2;clear a5 aD a9 an;have bw:Hid (wr.ownsRow w.heap.size 325 4 (ν) 0 (y6 (List.zipWith gz (kj r qw 0) []))):=yW _ _ _ _;have aH:Hid (ml lo w r nts [] 0):=⟨rfl,λi a=>by omega⟩;go_loopw [62] (λcU wr=>∃(k:Nat) (bv:Value) (bps:List (Value×Nat×List Nat)),k<=r.qw.length/\cU=ι k/\Hid (uS lo w wr (w.heap.size+1) jb r (.slice j r.head.qg.length b) (sl g qc.length) bv hvs (jZ r 5) (kH qc))/\Hid (RM w.heap.size wr r hvs 5)/\Hid (wr.ownsRow w.heap.size 323 4 (sl g qc.length) qc.length (y6 (qM RO qc.length qc.length)))/\Hid (wr.ownsRow w.heap.size 325 4 bv k (y6 (List.zipWith gz (kj r qw k) bps)))/\Hid (ml lo w r nts bps k)) (λi _=>r.qw.length-(intOf i).toNat)
 case atStart=>exact⟨0,_,[],zv _,rfl,H,V,HS,bw,aH⟩
 clear H V HS bw aH G C am;obtain⟨k,bv,bps,hk,rfl,H,V,HS,HB,aq⟩:=hrel;have C:=H.out.below;have am:=C.size;by_cases t:k<r.qw.length
 .have bF:k<qw.length:=by rw[a6.out];exact t
  have bC:k<nts.length:=by have:=HN.out.len;omega
  obtain⟨gl,J,z,cF,aM,bu,co,a4⟩:=HR.out.qw.cell k t;subst cF;obtain⟨gn,c7,aW,br,ch⟩:=HN.out.cell k bF bC;simp only[Value.slice.injEq] at aW;have cd:=aW.1;clear aW;subst cd;have bQ:(k:Int)<(r.qw.length:Int):=by omega
  have df:(k:Int)<(qw.length:Int):=by omega
  have aV:=zl C aM bu;have cT:=zl C aM co;have bS:=zl C br ch;have dj:gl<wr.heap.size:=by omega
  have bA:gn<wr.heap.size:=by omega
  have aj:=HB.out;obtain⟨aB,ak,aF⟩:=zq aj;subst aF;have cQ:=Ry a4;have bJ:Hid (∀W,μ w W->Calls prog 222 #[.agg #[ι (r.qw[k].pred:Nat),.slice J r.qw[k].qg.length z]] W λe w'=>e=ε (ι (uU r.qw[k]:Nat))/\μ W w'):=λW hW=>E6 W _ r.qw[k].pred r.qw[k].qg (a4.below hW);have aX:Hid (y6 (List.zipWith gz (kj r qw (k+1)) (bps++[(.slice J r.qw[k].qg.length z,nts[k].1,nts[k].2)]))=y6 (List.zipWith gz (kj r qw k) bps)++[ι (r.qw[k].pred:Nat),.slice J r.qw[k].qg.length z,ι (uU r.qw[k]:Nat),.pointer (some ⟨nts[k].1,0,none⟩)]):=NZ r qw bps k t bF aq.out.1 _ _ _;have al:=Ry (aq.out.snoc t bC a4);clear bu co ch a4 cQ;generalize r.qw[k].pred=pr at *;generalize r.qw[k].qg.length=tl at *;generalize uU r.qw[k]=kn at *;generalize nts[k].1=tb at *;generalize nts[k].2=fp at *;go_upto_region 19 with fail
  have N:μ wr (wr.alloc (.cells #[ι pr,.slice J tl z] 204)):=(by go_grown);have aP:=Rz.new wr #[ι pr,.slice J tl z] 204;have aC:=H.out.next N;have ck:Hid (RM _ _ r hvs 5):=V.out.below N;have b7:Hid (World.ownsRow _ w.heap.size 323 4 (sl g qc.length) qc.length _):=zB HS.out N;have aE:=zB aj N;have ay:=zl N bA bS;clear H V HS HB aj aV cT bS;generalize wr.alloc (.cells #[ι pr,.slice J tl z] 204)=w1 at *;generalize wr.heap.size=lb at *;clear N C;have M:=aC.below;obtain⟨bq,bt,_,b8,_,_,_⟩:=aC.cells;obtain⟨ce,cD,dh⟩:=aP.boxed;have bz:=Ry aC;clear aC;have cP:=M.size;refine wp_region_noPanic ?_;refine oH (S:=λw'=>w'.cell? ⟨jb,4,none⟩=some (.slice aB k ak)/\w'.cell? ⟨lb,0,none⟩=some (ι pr)/\w'.cell? ⟨lb,1,none⟩=some (.slice J tl z)/\w'.cell? ⟨gn,k,none⟩=some ((π tb))) (d:=13) (by kernel_rfl) (by refine⟨b8,?_,?_,ay⟩<;>(show w1.cell? _=_;rw[ce];rfl)) (λn=>?_);refine uk (i:=0) (v:=?v0) rfl (by kernel_rfl) (by kernel_rfl) (by kernel_rfl) (by kernel_rfl) (λ_ _ _ h=>h) (zh ⟨by rfl,?hy0⟩) n ?rest0
  case hy0=>
   intro wq T;go_simp
   (try with_reducible rfl)
  refine uk (i:=1) (v:=?v1) rfl (by kernel_rfl) (by kernel_rfl) (by kernel_rfl) (by kernel_rfl) (λ_ _ _ h=>h) (zh ⟨by rfl,?hy1⟩) n ?rest1
  case hy1=>
   intro wq T;go_simp
   (try with_reducible rfl)
  refine uk (i:=2) (v:=?v2) rfl (by kernel_rfl) (by kernel_rfl) (by kernel_rfl) (by kernel_rfl) (λ_ _ _ h=>h) (zh ⟨by rfl,?hy2⟩) n ?rest2
  case hy2=>
   intro wq T;go_simp
   (try with_reducible rfl)
  refine uk (i:=3) (v:=?v3) rfl (by kernel_rfl) (by kernel_rfl) (by kernel_rfl) (by kernel_rfl) (λ_ _ _ h=>h) (zh ⟨by rfl,?hy3⟩) n ?rest3
  case hy3=>
   intro wq T;go_simp
   (try with_reducible rfl)
  refine uk (i:=5) (v:=?v5) rfl (by kernel_rfl) (by kernel_rfl) (by kernel_rfl) (by kernel_rfl) (λ_ _ _ h=>h) (zh ⟨by rfl,?hy5⟩) n ?rest5
  case hy5=>
   intro wq T;go_simp
   (try with_reducible rfl)
  refine uk (i:=6) (v:=?v6) rfl (by kernel_rfl) (by kernel_rfl) (by kernel_rfl) (by kernel_rfl) (λ_ _ _ h=>h) (zh ⟨by rfl,?hy6⟩) n ?rest6
  case hy6=>
   intro wq T;go_simp
   (try with_reducible rfl)
  refine uk (i:=7) (v:=?v7) rfl (by kernel_rfl) (by kernel_rfl) (by kernel_rfl) (by kernel_rfl) (λ_ _ _ h=>h) (zh ⟨by rfl,?hy7⟩) n ?rest7
  case hy7=>
   intro wq T;go_simp
   (try with_reducible rfl)
  refine uk (i:=8) (v:=?v8) rfl (by kernel_rfl) (by kernel_rfl) (by kernel_rfl) (by kernel_rfl) (λ_ _ _ h=>h) (zh ⟨by rfl,?hy8⟩) n ?rest8
  case hy8=>
   intro wq T;go_simp
   (try with_reducible rfl)
  refine gX (i:=4) (by kernel_rfl) rfl (λK hK=>?_);go_simp
  refine(bJ.out _ (by exact(zI M 1))).mono ?_;rintro e F ⟨rfl,l⟩;have ah:=R5 (zI (zp _ _) 1) l;have m:=bz.out.next ah;have a8:Hid (RM _ _ r hvs 5):=ck.out.below ah;have cV:Hid (World.ownsRow F w.heap.size 323 4 (sl g qc.length) qc.length _):=zB b7.out ah;have E:=zB aE ah;have aK:=aP.below ah;have a0:=(ah.cell (p:=⟨gn,k,none⟩) (show gn<w1.heap.size by omega)).trans ay;have cX:=ah.size;have bP:=m.below;obtain⟨av,a2,_,cu,_,_,_⟩:=m.cells;have ad:=Ry m;obtain⟨Y,cr⟩:=aK.rules;refine hK.out _ _ (λ_=>⟨cu,by rw[Y];rfl,by rw[Y];rfl,a0⟩) ?_;have O:F.cell? ⟨jb,4,none⟩=some (.slice aB k ak)/\F.cell? ⟨lb,0,none⟩=some (ι pr)/\F.cell? ⟨lb,1,none⟩=some (.slice J tl z)/\F.cell? ⟨gn,k,none⟩=some ((π tb)):=⟨cu,by rw[Y];rfl,by rw[Y];rfl,a0⟩;clear hK K n m ce cD bq bt b8 ay bz ck b7 l Y cr bJ;refine uk (i:=9) (v:=?v9) rfl (by kernel_rfl) (by kernel_rfl) (by kernel_rfl) (by kernel_rfl) (λ_ _ _ h=>h) (zh ⟨by rfl,?hy9⟩) O ?rest9
  case hy9=>
   intro wq T;go_simp
   (try with_reducible rfl)
  refine gX (i:=10) (by kernel_rfl) rfl (λK hK=>?_);go_simp
  refine hK.out _ _ (λ_=>?hS10) ?rest10
  case hS10=>obtain⟨q0,q1,q2,q3⟩:=O;refine⟨?_,?_,?_,?_⟩<;>(rw[World.cell?_alloc_lt _ _ _ (by simp;omega)];assumption)
  clear hK K;refine gX (i:=11) (by kernel_rfl) rfl (λK hK=>?_);refine fw F _ [ι pr,.slice J tl z,ι kn,(π tb)] 325 rfl (.tmp 72) (.tmp 81) 306 rfl w.heap.size 325 iB _ 4 48 underlying306 cG c8 bV bW rfl (by decide) (.slice aB k ak) k (y6 (List.zipWith gz (kj r qw k) bps)) (by simp[Act.eval]) E (by exact(by go_grown)) F.heap.size 1 (by simp[Act.eval]) (by exact Rz.new _ _ _) rfl (by simp[Value.oneCell']) (by omega) (by omega) (by omega) ?_;intro v' w3 b3 ab db dr dd;obtain⟨cb,aI,rfl⟩:=zq b3;have bc:=RL.own E;have f:=ad.out.save ab (λx hx=>yX E (xb hx)) ⟨qK E ad.out.box (by decide),λhm=>by obtain⟨c,hc,_⟩:=ad.out.res;exact qK E hc (by decide) hm⟩;have cc:=aK.saveT ab bc (by decide);have L:=a8.out.saveT ab bc (by decide);have A:=yI cV.out ab bc (by decide);obtain⟨ax,bU⟩:=cc.rules;obtain⟨aS,aT,_,ca,_,_,_⟩:=f.cells;have aG:=(f.below.cell (p:=⟨gn,k,none⟩) br).trans ((bP.cell (p:=⟨gn,k,none⟩) br).symm.trans a0);have U:w3.cell? ⟨jb,4,none⟩=some (.slice aB k ak)/\w3.cell? ⟨lb,0,none⟩=some (ι pr)/\w3.cell? ⟨lb,1,none⟩=some (.slice J tl z)/\w3.cell? ⟨gn,k,none⟩=some ((π tb)):=⟨ca,by rw[ax];rfl,by rw[ax];rfl,aG⟩;refine hK.out _ _ (λ_=>U) ?_;clear hK K O;refine uk (i:=12) (v:=?v12) rfl (by kernel_rfl) (by kernel_rfl) (by kernel_rfl) (by kernel_rfl) (λ_ _ _ h=>h) (zh ⟨by rfl,?hy12⟩) U ?rest12
  case hy12=>
   intro wq T;go_simp
   (try with_reducible rfl)
  refine gX (i:=13) (by kernel_rfl) rfl (λK hK=>?_);go_simp
  refine hK.out _ _ (λhq=>z9 rfl hq) ?_;clear hK K;refine oL (by kernel_rfl) ?_ _;refine NoPanic.normal ?_;have Q:zc [jb] w3 (w3.setCell ⟨jb,4,none⟩ (.slice cb (k+1) aI)):=zc.set _ _ _ _;have I:=RL.box f.box;have ai:=f.bars (.slice cb (k+1) aI);have c5:=L.saveT Q I (by decide);have bH:=yI A Q I (by decide);have cj:=yI b3 Q I (by decide);rw[←aX.out] at cj;clear U ax bU aS aT ca aG;go_wp2;go_roundw;exact⟨k+1,_,_,by omega,by go_num,ai,c5,bH,cj,al⟩;simp[intOf];omega
 have cJ:k=r.qw.length:=by omega
 subst cJ;clear hk t;have hJ:RR lo wr jb (vq r qc qw (kH qc)) ⟨.slice j r.head.qg.length b,sl g qc.length,bv,hvs,RO,bps⟩:=jG.join (Ft C bo.out HR.out HP.out HN.out a6.out H.out.hlen V.out HS.out HB.out aq.out) (by have:=bo.out;omega) H.out.box;have bM:Hid (Calls prog 223 #[(π jb),ι 0] wr λe w'=>e=ε (.bool (uW (vq r qc qw (kH qc)) 0))/\μ wr w'):=Gm wr jb _ _ 0 hJ;have ao:=Ry (Kg r qc qw);have bR:Hid (∀(W:World) (d:Int),μ w W->RM w.heap.size W r hvs 5->W.ownsRow w.heap.size 323 4 (sl g qc.length) qc.length (y6 (qM RO qc.length qc.length))->W.ownsRow w.heap.size 325 4 bv r.qw.length (y6 (List.zipWith gz (kj r qw r.qw.length) bps))->jG lo W (vq r qc qw d) ⟨.slice j r.head.qg.length b,sl g qc.length,bv,hvs,RO,bps⟩):=λW d hW h1 h2 h3=>Ft hW bo.out HR.out HP.out HN.out a6.out H.out.hlen h1 h2 h3 aq.out;have al:=Ry (ml.all aq.out (by have:=HN.out.len;have:=a6.out;omega));obtain⟨da,cz,aF⟩:=zq HB.out;clear hJ;generalize uW (vq r qc qw (kH qc)) 0=ba at *;cases ba
 .simp only[gQ,if_false] at ao;go_upto_region 23 with (first|(go_at_call 223;refine bM.out.mono ?_;rintro e F ⟨rfl,l⟩))
  have f:=H.out.next l;have L:=V.out.below l;have ab:=zB HS.out l;have bg:=zB HB.out l;have au:∀u∈jc r (.slice j r.head.qg.length b) (sl g qc.length) bv hvs (jZ r 5) (kH qc),u.oneCell'=true:=F7 rfl rfl (by rw[aF];rfl) (RM.one L f.hlen);have y:=Bh r (.slice j r.head.qg.length b) (sl g qc.length) bv hvs (jZ r 5) (kH qc) f.hlen f.blen;have af:=f;have bf:=bR.out F (kH qc) f.below L ab bg;have a1:(jc r (.slice j r.head.qg.length b) (sl g qc.length) bv hvs (jZ r 5) (kH qc))=uw (vq r qc qw (kH qc)) ⟨.slice j r.head.qg.length b,sl g qc.length,bv,hvs,RO,bps⟩:=rfl;have aU:=Ry a1;clear a1;have bd:=f.box;generalize jc r (.slice j r.head.qg.length b) (sl g qc.length) bv hvs (jZ r 5) (kH qc)=cs at *;refine wp_region_lit ?_;refine wpList_load_mid rfl 310 (.tmp 7) rfl jb 0 (by rfl) cs _ (bd.range) underlying310 rfl (by rw[y];exact Re) ?_;refine wpList_store_mid rfl 310 (.tmp 6) (.tmp 87) rfl (w.heap.size+1) 0 cs.toArray (by rfl) (by rfl) (by show World.there _ _ 0 cs.length;rw[y];exact(rj af).there) (by show _=some cs.length;rw[y];exact Re) (all_oneCell_toArray au) ?_;refine wpList_nil ?_;have Q:zc [w.heap.size+1] F (F.setCells (w.heap.size+1) 0 cs):=zc.sets _ _ _ _;have R:Rz (F.setCells (w.heap.size+1) 0 cs) (w.heap.size+1) cs.toArray 310:=p8 (rj af) y;have bb:=bf.saveJ Q (RL.box (rj af).choose_spec.1);have X:=f.below.trans (Q.below (by simp) f.below.size);generalize F.setCells (w.heap.size+1) 0 cs=w5 at *;go_wp2
  (try simp only[Exit.inBlock,Exit.then])
  refine zO (v:=.agg cs.toArray) (tu rfl _ _ _ _ _ (by rfl) (run_loadVar_mid w5 (w.heap.size+1) 0 310 cs _ R.range underlying310 rfl (by rw[y];exact Re))) rfl ⟨_,by rw[ao.out,aU.out],by rw[ao.out];exact bb,rfl,al.out,X⟩
 simp only[if_true] at ao;go_upto_region 23 with (first|(go_at_call 223;refine bM.out.mono ?_;rintro e F ⟨rfl,l⟩;have m:=H.out.next l;obtain⟨av,a2,_,_,aO,_,_⟩:=m.cells))
 have A:zc [jb] F (F.setCell ⟨jb,26,none⟩ (ι (-1))):=zc.set _ _ _ _;have I:=RL.box m.box;have f:=m.ql (-1);have L:=(V.out.below l).saveT A I (by decide);have ab:=yI (zB HS.out l) A I (by decide);have bg:=yI (zB HB.out l) A I (by decide);generalize F.setCell ⟨jb,26,none⟩ (ι (-1))=w3 at *;clear av a2 aO A I m l;have au:∀u∈jc r (.slice j r.head.qg.length b) (sl g qc.length) bv hvs (jZ r 5) (-1),u.oneCell'=true:=F7 rfl rfl (by rw[aF];rfl) (RM.one L f.hlen);have y:=Bh r (.slice j r.head.qg.length b) (sl g qc.length) bv hvs (jZ r 5) (-1) f.hlen f.blen;have af:=f;have bf:=bR.out w3 (-1) f.below L ab bg;have a1:(jc r (.slice j r.head.qg.length b) (sl g qc.length) bv hvs (jZ r 5) (-1))=uw (vq r qc qw (-1)) ⟨.slice j r.head.qg.length b,sl g qc.length,bv,hvs,RO,bps⟩:=rfl;have aU:=Ry a1;clear a1;have bd:=f.box;generalize jc r (.slice j r.head.qg.length b) (sl g qc.length) bv hvs (jZ r 5) (-1)=cs at *;refine wp_region_lit ?_;refine wpList_load_mid rfl 310 (.tmp 7) rfl jb 0 (by rfl) cs _ (bd.range) underlying310 rfl (by rw[y];exact Re) ?_;refine wpList_store_mid rfl 310 (.tmp 6) (.tmp 87) rfl (w.heap.size+1) 0 cs.toArray (by rfl) (by rfl) (by show World.there _ _ 0 cs.length;rw[y];exact(rj af).there) (by show _=some cs.length;rw[y];exact Re) (all_oneCell_toArray au) ?_;refine wpList_nil ?_;have Q:zc [w.heap.size+1] w3 (w3.setCells (w.heap.size+1) 0 cs):=zc.sets _ _ _ _;have R:Rz (w3.setCells (w.heap.size+1) 0 cs) (w.heap.size+1) cs.toArray 310:=p8 (rj af) y;have bb:=bf.saveJ Q (RL.box (rj af).choose_spec.1);have X:=f.below.trans (Q.below (by simp) f.below.size);generalize w3.setCells (w.heap.size+1) 0 cs=w5 at *;go_wp2
 (try simp only[Exit.inBlock,Exit.then])
 refine zO (v:=.agg cs.toArray) (tu rfl _ _ _ _ _ (by rfl) (run_loadVar_mid w5 (w.heap.size+1) 0 310 cs _ R.range underlying310 rfl (by rw[y];exact Re))) rfl ⟨_,by rw[ao.out,aU.out],by rw[ao.out];exact bb,rfl,al.out,X⟩
end
end Go.Proofs.YteampbddflhngaaGreat
