import Derived.Test.YteampbddflhngaaGreatV26
namespace Go.Proofs.YteampbddflhngaaGreat
set_option linter.all false
set_option maxRecDepth 100000
set_option maxHeartbeats 4000000
open Go.RowKit
section
open Go.Proofs.Tryz
variable {lo:Nat}
theorem ez:∀(a:List (Nat×Nat)) (k:Nat) (b:k<a.length),(jP a)[k*2]?=some (.int .i64 (a[k].1:Nat))/\(jP a)[k*2+1]?=some (.int .i64 (a[k].2:Nat))
 |[],k,b=>by simp at b
 |p::r,0,_=>by simp[jP]
 |p::r,k+1,b=>by
  have:=ez r k (by simpa using b);simp only[jP,us] at this ⊢;rw[show(k+1)*2=k*2+1+1 from by omega,show k*2+1+1+1=k*2+1+1+1 from rfl];simpa using this
theorem P2.hold{w:World}{j:Nat}{J:z9}{P:xr}(h:P2 lo w j J P)(p:Nat)(q:p<5):∃g a,w.cell? ⟨j,5+p,none⟩=some (.slice g (J.je.getD p []).length a)/\(J.je.getD p []).length<=1000/\∀k (m:k<(J.je.getD p []).length),∃b,g=some ⟨b,0,none⟩/\b<w.heap.size/\b≠j/\w.cell? ⟨b,k*2,none⟩=some (.int .i64 ((J.je.getD p [])[k].1:Nat))/\w.cell? ⟨b,k*2+1,none⟩=some (.int .i64 ((J.je.getD p [])[k].2:Nat)):=by
 have o:p<J.je.length:=by rw[h.hlen.2];exact q
 have u:p<P.hvs.length:=by rw[h.hlen.1];exact q
 have e:J.je.getD p []=J.je[p]:=by simp[List.getD_eq_getElem?_getD,o]
 rw[e];obtain⟨i,t,_⟩:=h.je p o u;obtain⟨g,a,n⟩:=zq i;obtain⟨s,_⟩:=h.box.rules;refine⟨g,a,?_,t,fun k m=>?_⟩
 ·rw[←n,s];obtain⟨D,z,B,A,C,y⟩:=five h.hlen.1;obtain rfl|rfl|rfl|rfl|rfl:p=0∨p=1∨p=2∨p=3∨p=4:=by omega
  all_goals simp[um,y]
 ·obtain⟨b,r,d,_,l,c⟩:=y7 i (by omega);have f:=n.symm.trans d;simp only[Value.slice.injEq] at f;obtain⟨x,v⟩:=ez J.je[p] k m;exact⟨b,f.1,l,xL i h.box (by decide) (by rw[d];rfl),c _ _ x,c _ _ v⟩
theorem Lc(J:z9)(h:Nat×Nat)(f:Nat):(vJ J h f).1.je=J.je:=by unfold vJ;split<;>rfl
theorem Lh(w:World)(x:Nat)(J:z9)(P:xr)(p f n:Nat)(O:z9)(r:Option Nat)(h:P2 lo w x J P)(C:lU n J p f=some (O,r)):
  Calls prog 227 #[.pointer (some ⟨x,0,none⟩),.int .i64 p,.int .i64 f] w fun e S=>e=.returned (qK r)/\P2 lo S x O P/\zd [x] w S:=by
 have HJ:=OY h;unfold lU at C;by_cases h5:p≥5
 ·rw[zb (zf h5)] at C;simp only[zs,yo] at C;obtain⟨rfl,rfl⟩:=C;clear h;go_enter func227,ntmps227;go_wp2;go_ret2
  exact⟨rfl,HJ.out,zd.refl _ _⟩
 ·obtain⟨ao,aq,D,V,ad⟩:=h.hold p (by omega);clear ad;obtain⟨al,ar,_⟩:=h.at;by_cases h0:(J.je.getD p []).length=0
  ·rw[zb (ze h0)] at C;simp only[zs,yo] at C;obtain⟨rfl,rfl⟩:=C;clear h;generalize (J.je.getD p []).length=hn at *;subst h0;go_enter func227,ntmps227;go_wp2;go_ret2
   exact⟨rfl,HJ.out,zd.refl _ _⟩
  ·rw[za (by omega)] at C;have HR:=OY C;clear C h;have G:(J.je.getD p []).length>0:=by omega
   obtain⟨d,L⟩:∃d,d=J.je.getD p []:=⟨_,rfl⟩;rw[←L] at HR D V G;have U:=OY L;clear L;have an:((d.length:Int) == 0)=false:=beq_eq_false_iff_ne.2 (by omega);go_enter func227,ntmps227;go_wp2;go_loopg [8,9,10] n (fun k v8 v9 aa wr=>∃(z:z9) (at' c a:Nat),v8=.int .i64 at'/\v9=.int .i64 c/\aa=.int .i64 a/\Hid (dG k z d at' c a=some (O,r))/\Hid (P2 lo wr x z P)/\Hid (z.je=J.je)/\zd [x] w wr/\c<=d.length/\a<d.length)
   case atStart=>exact⟨J,f,0,0,rfl,rfl,rfl,HR,HJ,rfl,zd.refl _ _,by omega,G⟩
   case round=>
    clear D;obtain⟨z,at',c,a,rfl,rfl,rfl,HQ,H,Q,u,ai,Y⟩:=hrel;have I:=H.out;obtain⟨ae,af,_⟩:=I.at;obtain⟨am,ag,D,_,s⟩:=I.hold p (by omega);rw[Q.out,←U.out] at D s;obtain⟨hb,ac,ah,ak,ap,aj⟩:=s a Y;subst ac;clear s I;cases gk with
    |zero=>have q:=HQ.out;simp[dG] at q
    |succ m=>
     have q:=HQ.out;unfold dG at q;by_cases X:c<d.length
     ·rw[zb X] at q;have eg:d.getD a (0,0)=d[a]:=by simp[List.getD_eq_getElem?_getD,Y]
      rw[eg] at q;have o:Hid (Calls prog 229 #[.pointer (some ⟨x,0,none⟩),.agg #[.int .i64 (d[a].1:Nat),.int .i64 (d[a].2:Nat)],.int .i64 at'] wr fun e S=>e=.returned (.tuple #[.int .i64 (((vJ z d[a] at').2.getD 0:Nat):Int),.bool (vJ z d[a] at').2.isSome])/\P2 lo S x (vJ z d[a] at').1 P/\zd [x] wr S):=L9 wr x z P d[a].1 d[a].2 at' H.out;have M:=Lc z d[a] at';generalize ab:vJ z d[a] at'=lj at *;clear ab;obtain⟨N,r2⟩:=lj;generalize d[a]=hd at *;simp only at q o M;cases r2 with
      |none=>
       simp only[zs,yo] at q;obtain⟨Z,e2⟩:=q;simp only[kc,jW] at o;have T:Hid (O=N/\r=none):=⟨Z.symm,e2.symm⟩;clear Z e2;go_wp2_with (first|(go_at_call 229;refine o.out.mono ?_;rintro e F ⟨rfl,b,j⟩;have l:=OY b;clear b))
       go_ret2
       exact⟨by rw[T.out.2];rfl,by rw[T.out.1];exact l.out,u.trans j⟩
      |some v=>
       simp only[uo,qJ] at o;have i:Hid (dG m N d (if v>at' then v else at') ((if v>at' then 0 else c)+1) (if a+1≥d.length then 0 else a+1)=some (O,r)):=q;have A:=OY (M.trans Q.out);have E:Hid (∀W,P2 lo W x N P->∃t g,W.cell? ⟨x,5+p,none⟩=some (.slice t d.length g)):=fun W hW=>by
        obtain⟨t,g,q1,_⟩:=hW.hold p (by omega);rw[A.out,←U.out] at q1;exact⟨t,g,q1⟩
       clear q M;by_cases hv:v>at'
       ·rw[zb hv,zb hv] at i;by_cases R:a+1≥d.length
        ·rw[zb R] at i;go_wp2_with (first|(go_at_call 229;refine o.out.mono ?_;rintro e F ⟨rfl,b,j⟩;have l:=OY b;obtain⟨t,g,K⟩:=E.out F b;obtain⟨B,y,_⟩:=b.at;clear b))
         go_roundg m
         case measure=>omega
         case rel=>exact⟨N,v,1,0,rfl,rfl,rfl,i,l,A,u.trans j,by omega,by omega⟩
        ·rw[za R] at i;go_wp2_with (first|(go_at_call 229;refine o.out.mono ?_;rintro e F ⟨rfl,b,j⟩;have l:=OY b;obtain⟨t,g,K⟩:=E.out F b;obtain⟨B,y,_⟩:=b.at;clear b))
         go_roundg m
         case measure=>omega
         case rel=>exact⟨N,v,1,a+1,rfl,rfl,by go_num,i,l,A,u.trans j,by omega,by omega⟩
       ·rw[za hv,za hv] at i;by_cases R:a+1≥d.length
        ·rw[zb R] at i;go_wp2_with (first|(go_at_call 229;refine o.out.mono ?_;rintro e F ⟨rfl,b,j⟩;have l:=OY b;obtain⟨t,g,K⟩:=E.out F b;obtain⟨B,y,_⟩:=b.at;clear b))
         go_roundg m
         case measure=>omega
         case rel=>exact⟨N,at',c+1,0,rfl,by go_num,rfl,i,l,A,u.trans j,by omega,by omega⟩
        ·rw[za R] at i;go_wp2_with (first|(go_at_call 229;refine o.out.mono ?_;rintro e F ⟨rfl,b,j⟩;have l:=OY b;obtain⟨t,g,K⟩:=E.out F b;obtain⟨B,y,_⟩:=b.at;clear b))
         go_roundg m
         case measure=>omega
         case rel=>exact⟨N,at',c+1,a+1,rfl,by go_num,by go_num,i,l,A,u.trans j,by omega,by omega⟩
     ·rw[za X] at q;simp only[zs,yo] at q;obtain⟨Z,e2⟩:=q;have T:Hid (O=z/\r=some at'):=⟨Z.symm,e2.symm⟩;clear Z e2;go_wp2;go_ret2
      exact⟨by rw[T.out.2];rfl,by rw[T.out.1];exact H.out,u⟩
theorem B1:∀(a:List V4) (k:Nat) (_:k<a.length) (u:Value),(yw a).set (k*4+2) u=yw (a.modify k fun y=>(y.1,y.2.1,u,y.2.2.2))
 |[],k,b,_=>by simp at b
 |y::r,0,_,u=>by simp[yw,d9]
 |y::r,k+1,b,u=>by
  have:=B1 r k (by simpa using b) u;simp only[yw,us,d9,List.modify_succ_cons] at this ⊢;rw[show(k+1)*4+2=k*4+2+1+1+1+1 from by omega];simpa using this
theorem Eo:∀(a:List V4) (k:Nat) (_:k<a.length) (u:Value),(yw a).set (k*4+3) u=yw (a.modify k fun y=>(y.1,y.2.1,y.2.2.1,u))
 |[],k,b,_=>by simp at b
 |y::r,0,_,u=>by simp[yw,d9]
 |y::r,k+1,b,u=>by
  have:=Eo r k (by simpa using b) u;simp only[yw,us,d9,List.modify_succ_cons] at this ⊢;rw[show(k+1)*4+3=k*4+3+1+1+1+1 from by omega];simpa using this
theorem P2.setNode{w:World}{C:Nat}{J:z9}{P:xr}(h:P2 lo w C J P)(s i n:Nat)(u:s<J.ja.length)(N:i=1∨i=2){g cap:Nat}(F:P.sv=.slice (some ⟨g,0,none⟩) J.ja.length cap):
  P2 lo (w.setCell ⟨g,s*4+1+i,none⟩ (.int .i64 n)) C {J with ja:=J.ja.set s {J.ja[s] with qi:=J.ja[s].qi.set i n}} P:=by
 have c:=zd.set w g (s*4+1+i) (.int .i64 n);have d:=h.ja;rw[F] at d;have Q:s<P.tbs.length:=by rw[h.slen];exact u
 have f:=h.qi _ (zu u);have m:∀{L:Nat} {e:TypeId} {U:Nat} {v:Value} {O:Nat} {I:List Value},w.ownsRow L e U v O I->e≠323->∀b,v.ownBlock=some b->b∉[g]:=fun G S b t l=>fS G d S t (by simp at l;rw[l];rfl);obtain⟨y,o⟩:=Le d;have r:∀{z:Nat} {T:zi} {E:List Nat},zX lo w z T E->zX lo (w.setCell ⟨g,s*4+1+i,none⟩ (.int .i64 n)) z T E:=fun A=>A.save c (fun b R l=>by simp at l;subst l;exact A.notin (show OZ w _ y 323 from o) (by decide) (by decide) (by decide) R);refine⟨h.low,h.box.save c (by have:=xL d h.box (by decide) rfl;simpa using Ne.symm this),h.head.save c (m h.head.own (by decide)),?_,by simpa using h.slen,fun k a b=>?_,fun x H=>?_,yI h.bars c (m h.bars (by decide)),h.blen,fun k a b=>⟨(h.ji k a b).1.save c (m (h.ji k a b).1.own (by decide)),r (h.ji k a b).2⟩,h.hlen,fun p a b=>⟨yI (h.je p a b).1 c (m (h.je p a b).1 (by decide)),(h.je p a b).2⟩,h.jk,by simpa using h.few⟩
 ·have D:(yw (List.zipWith gD J.ja P.tbs)).length=J.ja.length*4:=by rw[wa];simp[h.slen]
  have q:=uK d (s*4+1+i) (by omega) (.int .i64 n);rw[F];have e:(yw (List.zipWith gD J.ja P.tbs)).set (s*4+1+i) (.int .i64 n)=yw (List.zipWith gD (J.ja.set s {J.ja[s] with qi:=J.ja[s].qi.set i n}) P.tbs):=by
   have B:s<(List.zipWith gD J.ja P.tbs).length:=by simp;omega
   rcases N with rfl|rfl
   ·rw[show s*4+1+1=s*4+2 from by omega,B1 _ s B];congr 1;apply kJ
    ·simp
    ·intro j M K;by_cases e:s=j
     ·subst e;simp[gD,List.getD_eq_getElem?_getD,f]
     ·simp[e]
   ·rw[show s*4+1+2=s*4+3 from by omega,Eo _ s B];congr 1;apply kJ
    ·simp
    ·intro j M K;by_cases e:s=j
     ·subst e;simp[gD,List.getD_eq_getElem?_getD,f]
     ·simp[e]
  rw[e] at q;simpa using q
 ·simp only[la] at a;simp only[m5];split
  ·rename_i e;subst e;exact r (h.tries s u b)
  ·exact r (h.tries k a b)
 ·rcases nZ H with q|q
  ·exact h.qi x q
  ·subst q;simp[f]
theorem Ji(w:World)(D:Nat)(J:z9)(P:xr)(s l v:Nat)(h:P2 lo w D J P)(ar:l<=1000000):
  Calls prog 230 #[.pointer (some ⟨D,0,none⟩),.agg #[.int .i64 s,.int .i64 l],.int .i64 v] w fun e U=>e=.returned (.tuple #[])/\P2 lo U D (vU v J (s,l)) P/\zd P.sv.ownBlock.toList w U:=by
 have j:=OY fun W hW=>Dv W D J P s l (h.below hW);have V:=OY h;cases b:vu J (s,l) with
 |false=>
  have H:Hid (vU v J (s,l)=J):=by simp[Hid,vU,b]
  rw[b] at j;clear b h;go_enter func230,ntmps230;go_wp2_with (first|(go_at_call 231;refine(j.out _ (by exact(by go_grown))).mono ?_;rintro e f ⟨rfl,i⟩;have d:Below w.heap.size w f:=zM (by go_grown) i (zh _)))
  (try simp only[Exit.inBlock,Exit.then]);refine zJ (results_none rfl _ _ _) rfl ?_
  exact⟨rfl,by rw[H.out];exact V.out.below d,zd.of d⟩
 |true=>
  have ac:s<J.ja.length/\l<3:=by simpa [vu] using b
  obtain⟨L,hl⟩:=ac;by_cases G:l+1≥3
  ·have H:Hid (vU v J (s,l)=J):=by simp[Hid,vU,G]
   rw[b] at j;clear b h;go_enter func230,ntmps230;go_wp2_with (first|(go_at_call 231;refine(j.out _ (by exact(by go_grown))).mono ?_;rintro e f ⟨rfl,i⟩;have d:Below w.heap.size w f:=zM (by go_grown) i (zh _);have k:=(OZ.new w #[.int .i64 s,.int .i64 l] 327).below i;obtain⟨y,x,t⟩:=k.boxed))
   (try simp only[Exit.inBlock,Exit.then]);refine zJ (results_none rfl _ _ _) rfl ?_
   exact⟨rfl,by rw[H.out];exact V.out.below d,zd.of d⟩
  ·have H:Hid (vU v J (s,l)={J with ja:=J.ja.set s {J.ja[s] with qi:=J.ja[s].qi.set (l+1) ((zH J.ja[s].rows (J.ja[s].qi.getD l 0) v).getD 0)}}):=by simp[Hid,vU,b,G,List.getD_eq_getElem?_getD,L]
   rw[b] at j;have au:(s:Int)<(J.ja.length:Int):=by omega
   have an:(l:Int)<3:=by omega
   have aj:(l:Int)+1<3:=by omega
   obtain⟨ak,_⟩:=h.at;clear b h;go_enter func230,ntmps230;go_wp2_with (first|(go_at_call 231;refine(j.out _ (by exact(by go_grown))).mono ?_;rintro e f ⟨rfl,i⟩;have d:Below w.heap.size w f:=zM (by go_grown) i (zh _);have k:=(OZ.new w #[.int .i64 s,.int .i64 l] 327).below i;obtain⟨y,x,t⟩:=k.boxed))
   have g:=OY (V.out.below d);have B:=g.out;obtain⟨r,K,_,_,_,A,_⟩:=B.at;obtain⟨C,ap,tb,fp,m,R,ao,ae,ab,E,ag⟩:=B.side s l L hl;rw[m] at A;have T:Hid (∀n,Calls prog 130 #[.pointer (some ⟨tb,0,none⟩),.int .i64 ((J.ja[s].qi.getD l 0:Nat):Int),.int .i64 v] (f.drewN n) fun e U=>e=.returned (.tuple #[.int .i64 (((zH J.ja[s].rows (J.ja[s].qi.getD l 0) v).getD 0:Nat):Int),.bool (zH J.ja[s].rows (J.ja[s].qi.getD l 0) v).isSome])/\U=f.drewN n):=fun n=>m8 _ tb _ fp _ v (E.below (zI (zo _ _) n));have O:Hid (∀W n,Below f.heap.size f W->P2 lo (W.setCell ⟨C,s*4+1+(l+1),none⟩ (.int .i64 ((n:Nat):Int))) D {J with ja:=J.ja.set s {J.ja[s] with qi:=J.ja[s].qi.set (l+1) n}} P):=fun W n hW=>(g.out.below hW).setNode s (l+1) n L (by omega) m;have Z:Hid (P.sv.ownBlock.toList=[C]):=by rw[Hid,m];rfl
   have z:∃u,f.cell? ⟨C,s*4+1+(l+1),none⟩=some u:=by
    obtain⟨af,Q,X,aa,a,_,_,_,q,_⟩:=g.out.side s (l+1) L (by omega);rw[m] at a;simp only[Value.slice.injEq,zs,Addr.mk.injEq] at a;obtain⟨⟨rfl,_⟩,_⟩:=a;exact⟨_,q⟩
   obtain⟨u,N⟩:=z;clear E B;generalize (zH J.ja[s].rows (J.ja[s].qi.getD l 0) v).getD 0=dn at *;generalize (zH J.ja[s].rows (J.ja[s].qi.getD l 0) v).isSome=ds at *;generalize J.ja[s].qi.getD l 0=nd at *;go_quiet ((go_at_call 130;exact Calls.quiet_of_same (T.out _)))
   have c:Below f.heap.size f (f.drewN nq):=zI (zo _ _) _;clear y x t r K ag T;have ah:=(c.cell (p:=⟨D,3,none⟩) (g.out.box.lt)).trans A;have ai:=zl c R N;have S:=k.below c;have F:=O.out _ dn c;have am:∀o,(f.drewN nq).frozen? ⟨C,o,none⟩=false:=by
    obtain⟨af,Q,X,aa,a,_,_,_,_,_,q⟩:=(g.out.below c).side s l L hl;rw[m] at a;simp only[Value.slice.injEq,zs,Addr.mk.injEq] at a;obtain⟨⟨rfl,_⟩,_⟩:=a;exact q
   have ad:zd [C] w (f.drewN nq):=zd.of (Pc d c);have al:=xo R c.size;have r:=xo g.out.box.lt c.size;have aq:C≠w.heap.size:=fun e=>by
    have I:=g.out.ja;rw[m] at I;exact xL I k (by decide) rfl e
   generalize f.drewN nq=w2 at *;have Y:=OY F;clear F O A N ae ab k V j;obtain⟨y,x,t⟩:=S.boxed;go_wp2;go_region
   all_goals
    go_wp2;go_end0
    exact⟨rfl,by rw[H.out];exact Y.out.below (zo _ _).drew,by rw[Z.out];exact(ad.trans (zd.set _ _ _ _)).newer (zd.of (M:=[]) (zo _ _).drew) (by simp)⟩
end
section
open Go.Proofs.Tryz
variable {lo:Nat}{w:World}{jb:Nat}{J:z9}{P:xr}
theorem P2.hold2(h:P2 lo w jb J P)(p:Nat)(r:p<5):∃c a,P.hvs[p]?=some (.slice c (J.je.getD p []).length a)/\w.cell? ⟨jb,5+p,none⟩=some (.slice c (J.je.getD p []).length a)/\(J.je.getD p []).length<=1000/\(∀k (i:k<(J.je.getD p []).length),∃b,c=some ⟨b,0,none⟩/\b<w.heap.size/\w.cell? ⟨b,k*2,none⟩=some (.int .i64 ((J.je.getD p [])[k].1:Nat))/\w.cell? ⟨b,k*2+1,none⟩=some (.int .i64 ((J.je.getD p [])[k].2:Nat))/\(J.je.getD p [])[k].2<=1000000):=by
 have q:p<J.je.length:=by rw[h.hlen.2];exact r
 have o:p<P.hvs.length:=by rw[h.hlen.1];exact r
 have e:J.je.getD p []=J.je[p]:=by simp[List.getD_eq_getElem?_getD,q]
 rw[e];obtain⟨n,u,g⟩:=h.je p q o;obtain⟨c,a,j⟩:=zq n;obtain⟨t,_⟩:=h.box.rules;refine⟨c,a,by rw[yq o,j],?_,u,fun k i=>?_⟩
 ·rw[←j,t];obtain⟨D,z,B,A,C,y⟩:=five h.hlen.1;obtain rfl|rfl|rfl|rfl|rfl:p=0∨p=1∨p=2∨p=3∨p=4:=by omega
  all_goals simp[um,y]
 ·obtain⟨b,s,l,_,m,d⟩:=y7 n (by omega);have f:=j.symm.trans l;simp only[Value.slice.injEq] at f;obtain⟨x,v⟩:=ez J.je[p] k i;exact⟨b,f.1,m,d _ _ x,d _ _ v,(g _ (zu i)).2⟩
def kU(J:z9)(p v:Nat):z9:={J with qy:=J.qy.set p v,«from»:=(if p+1<5 then(J.from.set p (v+1)).set (p+1) 0 else J.from.set p (v+1))}
theorem Nt(J:z9)(p v:Nat)(a:p<5):uE J p v=(J.je.getD p []).foldl (vU v) (kU J p v):=by unfold uE;rw[za (by omega)];rfl
theorem P2.setVal(h:P2 lo w jb J P)(p v:Nat)(g:p+1<5):P2 lo (((w.setCell ⟨jb,16+p,none⟩ (.int .i64 v)).setCell ⟨jb,21+p,none⟩ (.int .i64 ((v:Int)+1))).setCell ⟨jb,21+(p+1),none⟩ (.int .i64 0)) jb (kU J p v) P:=by
 obtain⟨b,a,c⟩:=h.jk;refine h.rebox (((zd.set _ _ _ _).trans (zd.set _ _ _ _)).trans (zd.set _ _ _ _)) ?_ rfl rfl rfl rfl rfl (by simp[kU,g,b,a,c]);obtain⟨G,l,x,n,D,f⟩:=five h.hlen.1;obtain⟨A,m,t,k,s,j⟩:=five b;obtain⟨z,E,y,q,o,i⟩:=five a;obtain⟨r,u,F,C,B,e⟩:=five c;have d:=((h.box.set (16+p) (.int .i64 v)).set (21+p) (.int .i64 ((v:Int)+1))).set (21+(p+1)) (.int .i64 0);obtain rfl|rfl|rfl|rfl:p=0∨p=1∨p=2∨p=3:=by omega
 all_goals simpa [um,kU,f,j,i,e,PF] using d
theorem P2.setVal4(h:P2 lo w jb J P)(p v:Nat)(D:p<5)(q:¬p+1<5):P2 lo ((w.setCell ⟨jb,16+p,none⟩ (.int .i64 v)).setCell ⟨jb,21+p,none⟩ (.int .i64 ((v:Int)+1))) jb (kU J p v) P:=by
 obtain rfl:p=4:=by omega
 obtain⟨b,a,c⟩:=h.jk;refine h.rebox ((zd.set _ _ _ _).trans (zd.set _ _ _ _)) ?_ rfl rfl rfl rfl rfl (by simp[kU,b,a,c]);obtain⟨H,k,x,m,E,f⟩:=five h.hlen.1;obtain⟨A,l,t,j,s,i⟩:=five b;obtain⟨z,F,y,o,n,g⟩:=five a;obtain⟨r,u,G,C,B,e⟩:=five c;have d:=(h.box.set (16+4) (.int .i64 v)).set (21+4) (.int .i64 ((v:Int)+1));simpa [um,kU,f,i,g,e,PF] using d
theorem IR(v:Nat)(J:z9)(h:Nat×Nat):(vU v J h).je=J.je:=by unfold vU;split<;>rfl
theorem Dt(v:Nat):∀(a:List (Nat×Nat)) (J:z9),(a.foldl (vU v) J).je=J.je
 |[],J=>rfl
 |h::r,J=>by rw[uv,Dt v r,IR]
theorem P2.vals(h:P2 lo w jb J P)(p:Nat)(B:p<5):w.cell? ⟨jb,16+p,none⟩=some (.int .i64 (J.qy.getD p 0:Nat))/\w.cell? ⟨jb,21+p,none⟩=some (.int .i64 (J.from.getD p 0:Nat))/\w.cell? ⟨jb,10+p,none⟩=some (.int .i64 (J.jg.getD p 0)):=by
 obtain⟨a,_⟩:=h.box.rules;obtain⟨c,b,d⟩:=h.jk;obtain⟨F,k,u,m,C,f⟩:=five h.hlen.1;obtain⟨y,l,s,j,r,i⟩:=five c;obtain⟨x,D,v,o,n,g⟩:=five b;obtain⟨q,t,E,A,z,e⟩:=five d;rw[a,a,a];obtain rfl|rfl|rfl|rfl|rfl:p=0∨p=1∨p=2∨p=3∨p=4:=by omega
 all_goals simp[um,f,i,g,e,PF]
theorem Nl(w:World)(jb:Nat)(J:z9)(P:xr)(p v:Nat)(h:P2 lo w jb J P)(hv:v<=1000000):
  Calls prog 228 #[.pointer (some ⟨jb,0,none⟩),.int .i64 p,.int .i64 v] w fun e o=>e=.returned (.tuple #[])/\P2 lo o jb (uE J p v) P/\zd (jb::P.sv.ownBlock.toList) w o:=by
 have HJ:=OY h;by_cases B:p<5
 ·have z:=OY (Nt J p v B);obtain⟨F,C,_⟩:=h.at;obtain⟨r,u,_⟩:=h.vals p B;by_cases G:p+1<5;obtain⟨_,L,_⟩:=h.vals (p+1) G;have O:(p:Int)<5:=by omega
  have I:(p:Int)+1<5:=by omega
  have g:=h.setVal p v G;have t:zd [jb] w (((w.setCell ⟨jb,16+p,none⟩ (.int .i64 v)).setCell ⟨jb,21+p,none⟩ (.int .i64 ((v:Int)+1))).setCell ⟨jb,21+(p+1),none⟩ (.int .i64 0)):=((zd.set _ _ _ _).trans (zd.set _ _ _ _)).trans (zd.set _ _ _ _);clear h;go_enter func228,ntmps228;go_upto_region 5 with fail
  clear r u L;generalize (((w.setCell ⟨jb,16+p,none⟩ (.int .i64 v)).setCell ⟨jb,21+p,none⟩ (.int .i64 ((v:Int)+1))).setCell ⟨jb,21+(p+1),none⟩ (.int .i64 0))=w1 at *;rotate_left
  have O:(p:Int)<5:=by omega
  have I:¬(p:Int)+1<5:=by omega
  have g:=h.setVal4 p v B G;have t:zd [jb] w ((w.setCell ⟨jb,16+p,none⟩ (.int .i64 v)).setCell ⟨jb,21+p,none⟩ (.int .i64 ((v:Int)+1))):=(zd.set _ _ _ _).trans (zd.set _ _ _ _);clear h;go_enter func228,ntmps228;go_upto_region 5 with fail
  clear r u;generalize ((w.setCell ⟨jb,16+p,none⟩ (.int .i64 v)).setCell ⟨jb,21+p,none⟩ (.int .i64 ((v:Int)+1)))=w1 at *
  all_goals
   have f:=OY g;clear g F C;obtain⟨ao,ab,c,j,d,_⟩:=f.out.hold2 p (by omega);obtain⟨q,m,_⟩:=f.out.at;rw[show(kU J p v).je=J.je from rfl] at c j d;obtain⟨a,l⟩:∃a,a=J.je.getD p []:=⟨_,rfl⟩;rw[←l] at c j d z;have H:=OY l;have S:=OY c;clear l c;go_wp2;clear j q m;generalize decide ((p:Int)<0)=Z;generalize decide ((5:Int)<=(p:Int))=ad;go_loopw [43] (fun E wr=>∃k:Nat,k<=a.length/\E=.int .i64 k/\Hid (P2 lo wr jb ((a.take k).foldl (vU v) (kU J p v)) P)/\zd (jb::P.sv.ownBlock.toList) w wr) (fun i _=>a.length-(intOf i).toNat)
   case atStart=>exact⟨0,zv _,rfl,f,t.more (by simp)⟩
   case round=>
    obtain⟨k,hk,rfl,b,y⟩:=hrel;by_cases n:k<a.length
    ·obtain⟨ac,T,A,_,_,N⟩:=b.out.hold2 p (by omega);rw[Dt,show(kU J p v).je=J.je from rfl,←H.out] at A N;rw[S.out] at A;simp only[zs,Value.slice.injEq] at A;obtain⟨rfl,_,rfl⟩:=A;obtain⟨hb,rfl,U,aa,X,D⟩:=N k n;have Y:=OY (p7 a (vU v) (kU J p v) k n);have HD:Hid (∀W,Below wr.heap.size wr W->Calls prog 230 #[.pointer (some ⟨jb,0,none⟩),.agg #[.int .i64 (a[k].1:Nat),.int .i64 (a[k].2:Nat)],.int .i64 v] W fun e o=>e=.returned (.tuple #[])/\P2 lo o jb (vU v ((a.take k).foldl (vU v) (kU J p v)) a[k]) P/\zd P.sv.ownBlock.toList W o):=fun W hW=>Ji W jb _ P a[k].1 a[k].2 v (b.out.below hW) D;clear N;generalize (a.take k).foldl (vU v) (kU J p v)=Jk at *;generalize a[k]=hd at *;go_wp2_with (first|(go_at_call 230;refine(HD.out _ (by exact(by go_grown))).mono ?_;rintro e w2 ⟨rfl,s,K⟩;have R:=OY s;clear s;have Q:=(zd.of (M:=P.sv.ownBlock.toList) (show Below wr.heap.size wr _ from(by go_grown))).trans K))
     go_roundw
     case rel=>exact⟨k+1,by omega,by go_num,by rw[Y.out];exact R.out,y.trans (Q.more (fun x V=>nW _ V))⟩
     case measure=>simp[intOf];omega
    ·obtain rfl:k=a.length:=by omega
     rw[uO] at b;go_wp2;go_end0
     exact⟨rfl,by rw[z.out];exact b.out,y⟩
 ·have z:Hid (uE J p v=J):=by unfold uE;rw[Hid,zb (by omega)]
  clear h;go_enter func228,ntmps228;go_wp2
  (try simp only[Exit.inBlock,Exit.then]);refine zJ (results_none rfl _ _ _) rfl ?_
  exact⟨rfl,by rw[z.out];exact HJ.out,zd.refl _ _⟩
end
section
open Go.Proofs.Tryz
variable {lo:Nat}
theorem P2.bar{w:World}{t:Nat}{J:z9}{P:xr}(h:P2 lo w t J P)(k:Nat)(q:k<J.bars.length):
  ∃c d b a p r,P.bv=.slice (some ⟨c,0,none⟩) J.bars.length d/\c<w.heap.size/\w.cell? ⟨c,k*4,none⟩=some (.int .i64 (J.bars[k].lit.pred:Nat))/\w.cell? ⟨c,k*4+1,none⟩=some (.slice b J.bars[k].lit.qg.length a)/\w.cell? ⟨c,k*4+2,none⟩=some (.int .i64 (J.bars[k].jd:Nat))/\w.cell? ⟨c,k*4+3,none⟩=some (.pointer (some ⟨p,0,none⟩))/\yh lo w (.slice b J.bars[k].lit.qg.length a) J.bars[k].lit.qg/\zX lo w p J.bars[k].rows r:=by
 obtain⟨c,d,s,_,g,f⟩:=y7 h.bars (by omega);have i:k<P.bps.length:=by rw[h.blen];exact q
 obtain⟨o,j,n,m⟩:=pZ (List.zipWith gi J.bars P.bps) k (by simp;omega);simp only[List.getElem_zipWith,gi] at o j n m;obtain⟨l,u⟩:=h.ji k q i;obtain⟨b,a,e⟩:=l.qw;rw[e] at j l;exact⟨c,d,b,a,_,_,s,g,f _ _ o,f _ _ j,f _ _ n,f _ _ m,l,u⟩
theorem Fq(l:zt)(vals:List Nat):zG l vals=[Pa l vals 0,Pa l vals 1,Pa l vals 2]:=rfl
theorem Cr(w:World)(n:Nat)(J:z9)(P:xr)(l:Nat)(h:P2 lo w n J P):
  Calls prog 223 #[.pointer (some ⟨n,0,none⟩),.int .i64 l] w fun e m=>e=.returned (.bool (uB J l))/\Below w.heap.size w m:=by
 have HJ:=OY h;obtain⟨G,D,_,_,_,_,I,_⟩:=h.at;obtain⟨aF,a4,R⟩:=zq h.bars;rw[R] at I;obtain⟨a,b,c,d,e,t⟩:=five h.jk.2.1;have a2:=h.few.2.1;have HV:Hid (∀W,P2 lo W n J P->W.cell? ⟨n,16,none⟩=some (.int .i64 a)/\W.cell? ⟨n,17,none⟩=some (.int .i64 b)/\W.cell? ⟨n,18,none⟩=some (.int .i64 c)/\W.cell? ⟨n,19,none⟩=some (.int .i64 d)/\W.cell? ⟨n,20,none⟩=some (.int .i64 e)):=fun W s=>by
  have q0:=(s.vals 0 (by omega)).1;have q1:=(s.vals 1 (by omega)).1;have q2:=(s.vals 2 (by omega)).1;have q3:=(s.vals 3 (by omega)).1;have q4:=(s.vals 4 (by omega)).1;rw[t] at q0 q1 q2 q3 q4;exact⟨q0,q1,q2,q3,q4⟩
 have HE:Hid (uB J l=J.bars.any (fun x=>x.jd == l&&(xB x.rows [Pa x.lit [a,b,c,d,e] 0,Pa x.lit [a,b,c,d,e] 1,Pa x.lit [a,b,c,d,e] 2]).isSome)):=by
  rw[Hid];unfold uB;rw[t];rfl
 clear h;go_enter func223,ntmps223;go_wp2;clear I G D;go_loopw [15] (fun ah wr=>∃k:Nat,k<=J.bars.length/\ah=.int .i64 k/\Hid ((J.bars.take k).any (fun x=>x.jd == l&&(xB x.rows [Pa x.lit [a,b,c,d,e] 0,Pa x.lit [a,b,c,d,e] 1,Pa x.lit [a,b,c,d,e] 2]).isSome)=false)/\Below w.heap.size w wr) (fun i _=>J.bars.length-(intOf i).toNat)
 case atStart=>exact⟨0,zv _,rfl,rfl,zo _ _⟩
 case round=>
  obtain⟨k,hk,rfl,HA,j⟩:=hrel;have K:=j.size;by_cases F:k<J.bars.length
  ·have u:=HJ.out.below j;obtain⟨G,D,_⟩:=u.at;obtain⟨al,aj,ay,ai,ap⟩:=HV.out wr u;obtain⟨gb,aK,o,g,M,fp,p,aJ,ag,aq,av,aa,hT,N⟩:=u.bar k F;rw[R] at p;simp only[Value.slice.injEq] at p;obtain⟨rfl,_,rfl⟩:=p;have HS:Hid ((J.bars.take (k+1)).any (fun x=>x.jd == l&&(xB x.rows [Pa x.lit [a,b,c,d,e] 0,Pa x.lit [a,b,c,d,e] 1,Pa x.lit [a,b,c,d,e] 2]).isSome)=((J.bars.take k).any (fun x=>x.jd == l&&(xB x.rows [Pa x.lit [a,b,c,d,e] 0,Pa x.lit [a,b,c,d,e] 1,Pa x.lit [a,b,c,d,e] 2]).isSome)||(J.bars[k].jd == l&&(xB J.bars[k].rows [Pa J.bars[k].lit [a,b,c,d,e] 0,Pa J.bars[k].lit [a,b,c,d,e] 1,Pa J.bars[k].lit [a,b,c,d,e] 2]).isSome))):=PQ J.bars _ k F;have aw:Hid ((J.bars[k].jd == l&&(xB J.bars[k].rows [Pa J.bars[k].lit [a,b,c,d,e] 0,Pa J.bars[k].lit [a,b,c,d,e] 1,Pa J.bars[k].lit [a,b,c,d,e] 2]).isSome)=true->uB J l=true):=fun q=>by rw[HE.out];exact Cj J.bars _ k F q
   have ae:Hid (∀W,Below wr.heap.size wr W->Calls prog 161 #[.agg #[.int .i64 (J.bars[k].lit.pred:Nat),.slice o J.bars[k].lit.qg.length g],.agg #[.int .i64 a,.int .i64 b,.int .i64 c,.int .i64 d,.int .i64 e]] W fun r m=>r=.returned (.agg #[.int .i64 ((Pa J.bars[k].lit [a,b,c,d,e] 0:Nat):Int),.int .i64 ((Pa J.bars[k].lit [a,b,c,d,e] 1:Nat):Int),.int .i64 ((Pa J.bars[k].lit [a,b,c,d,e] 2:Nat):Int)])/\Below W.heap.size W m):=fun W s=>wD W _ J.bars[k].lit.pred J.bars[k].lit.qg a b c d e (hT.below s);have V:Hid (∀W x y z,Below wr.heap.size wr W->Calls prog 83 #[.pointer (some ⟨M,0,none⟩),.agg #[.int .i64 ((x:Nat):Int),.int .i64 ((y:Nat):Int),.int .i64 ((z:Nat):Int)]] W fun r m=>r=.returned (.tuple #[.int .i64 (((xB J.bars[k].rows [x,y,z]).getD 0:Nat):Int),.bool (xB J.bars[k].rows [x,y,z]).isSome])/\Below W.heap.size W m):=fun W x y z s=>Ey W M _ fp x y z (N.below s);clear hT N u;generalize J.bars[k]=f at *;generalize Pa f.lit [a,b,c,d,e] 0=r0 at *;generalize Pa f.lit [a,b,c,d,e] 1=X at *;generalize Pa f.lit [a,b,c,d,e] 2=Z at *;by_cases L:f.jd=l
   ·subst L;have O:=OY fun W s=>V.out W r0 X Z s;clear V;generalize (xB f.rows [r0,X,Z]).getD 0=mg at *;generalize (xB f.rows [r0,X,Z]).isSome=ms at *;have am:((f.jd:Int) == (f.jd:Int))=true:=beq_self_eq_true _;have B:=OZ.new wr #[.int .i64 f.lit.pred,.slice o f.lit.qg.length g,.int .i64 f.jd,.pointer (some ⟨M,0,none⟩)] 325;have v:Below wr.heap.size wr (wr.alloc (.cells #[.int .i64 f.lit.pred,.slice o f.lit.qg.length g,.int .i64 f.jd,.pointer (some ⟨M,0,none⟩)] 325)):=(zo _ _).alloc (zh _) _;have C:=HJ.out.below (Pc j v);obtain⟨aA,aB,_⟩:=C.at;obtain⟨au,az,a0,ab,ac⟩:=HV.out _ C;clear C;go_wp2;generalize wr.alloc (.cells #[.int .i64 f.lit.pred,.slice o f.lit.qg.length g,.int .i64 f.jd,.pointer (some ⟨M,0,none⟩)] 325)=Y at *;clear ag aq av aa al aj ay ai ap G D;obtain⟨aD,aG,aH⟩:=B.boxed;have aI:=v.size;go_region_held3 (fun m=>m.cell? ⟨wr.heap.size,0,none⟩=some (.int .i64 f.lit.pred)/\m.cell? ⟨wr.heap.size,1,none⟩=some (.slice o f.lit.qg.length g)/\m.cell? ⟨n,16,none⟩=some (.int .i64 a)/\m.cell? ⟨n,17,none⟩=some (.int .i64 b)/\m.cell? ⟨n,18,none⟩=some (.int .i64 c)/\m.cell? ⟨n,19,none⟩=some (.int .i64 d)/\m.cell? ⟨n,20,none⟩=some (.int .i64 e)) (first|go_keep|(go_simp;done)) (first|(go_at_call 161;refine(ae.out _ (by exact(by go_grown))).mono ?_;rintro r w2 ⟨rfl,Q⟩;have A:Below Y.heap.size Y w2:=(zM (by go_grown) Q (zh _));have S:=B.below A;obtain⟨a5,a9,a1⟩:=S.boxed;have aL:=A.size;have T:=HJ.out.below (Pc (Pc j v) A);obtain⟨a8,a6,_⟩:=T.at;obtain⟨ad,ak,an,ar,ax⟩:=HV.out w2 T;try (have af:=(show OZ ((Y.alloc (.cells #[.int .i64 0,.int .i64 0,.int .i64 0] 165)).drew) Y.heap.size #[.int .i64 0,.int .i64 0,.int .i64 0] 165 from OZ.drew (OZ.new _ _ _)).below Q;obtain⟨a7,a3,aC⟩:=af.boxed)))
    all_goals
     have aE:=Pc v A;clear ad ak an ar ax au az a0 ab ac;cases ms with
     |true=>
      have ao:=OY (aw.out (by simp));go_wp2_with (first|(go_at_call 83;refine(O.out _ (by exact(by go_grown))).mono ?_;rintro r w3 ⟨rfl,H⟩;have E:Below wr.heap.size wr w3:=(zM (by go_grown) H (zh _))))
      go_ret;exact⟨by rw[ao.out];rfl,Pc j E⟩
     |false=>
      have U:Hid ((J.bars.take (k+1)).any (fun x=>x.jd == f.jd&&(xB x.rows [Pa x.lit [a,b,c,d,e] 0,Pa x.lit [a,b,c,d,e] 1,Pa x.lit [a,b,c,d,e] 2]).isSome)=false):=by rw[Hid,HS.out,HA.out];simp
      go_wp2_with (first|(go_at_call 83;refine(O.out _ (by exact(by go_grown))).mono ?_;rintro r w3 ⟨rfl,H⟩;have E:Below wr.heap.size wr w3:=(zM (by go_grown) H (zh _))))
      go_roundw
      case rel=>exact⟨k+1,by omega,by go_num,U,Pc j E⟩
      case measure=>simp[intOf];omega
   ·have U:Hid ((f.jd == l&&(xB f.rows [r0,X,Z]).isSome)=false):=by rw[Hid,beq_eq_false_iff_ne.2 L];rfl
    have am:((f.jd:Int) == (l:Int))=false:=beq_eq_false_iff_ne.2 (by omega);go_wp2;go_roundw
    case rel=>exact⟨k+1,by omega,by go_num,by rw[HS.out,HA.out,U.out];rfl,j.alloc K _⟩
    case measure=>simp[intOf];omega
  ·have U:Hid (uB J l=false):=by
    rw[Hid,HE.out];have q:=HA.out;rw[xk (by omega)] at q;exact q
   go_wp2;go_ret;exact⟨by rw[U.out];rfl,j⟩
end
section
open Go.Proofs.Tryz
variable {lo:Nat}{J:z9}
def Qc(J:z9):Prop:=∀s∈J.ja,s.rows.qf<=1000
theorem P2.narrow{w:World}{b:Nat}{P:xr}(h:P2 lo w b J P):Qc J:=by
 intro s c;obtain⟨k,a,rfl⟩:=vl c;obtain⟨f,e,d,_⟩:=h.tries k a (by rw[h.slen];exact a);exact d.wide
theorem Jj(h:Qc J)(b:Nat×Nat)(f:Nat):Qc (vJ J b f).1/\∀v,(vJ J b f).2=some v->v<=1000/\f<=1000:=by
 unfold vJ;split
 ·rename_i d;refine⟨h,fun v a=>?_⟩;have c:b.1<J.ja.length:=by simp[vu] at d;exact d.1
  have e:J.ja.getD b.1 xC.zero=J.ja[b.1]:=by simp[List.getD_eq_getElem?_getD,c]
  simp only[e] at a;have g:=h _ (zu c);have j:=ta a;have i:f<J.ja[b.1].rows.qf:=by
   unfold yF at a;split at a
   ·rename_i q;exact q.2
   ·cases a
  omega
 ·exact⟨h,fun v a=>by cases a⟩
theorem DX:∀(n:Nat) (J:z9) (d:List (Nat×Nat)) (a c b:Nat) (f:z9) (v:Nat),Qc J->(c<d.length∨a<=1000)->dG n J d a c b=some (f,some v)->v<=1000
 |0,_,_,_,_,_,_,_,_,_,h=>by simp[dG] at h
 |n+1,J,d,a,c,b,f,v,g,o,h=>by
  unfold dG at h;by_cases e:c<d.length
  ·rw[zb e] at h;obtain⟨j,i⟩:=Jj g (d.getD b (0,0)) a;generalize vJ J (d.getD b (0,0)) a=m at *;obtain⟨l,k⟩:=m;cases k with
   |none=>simp at h
   |some u=>
    obtain⟨p,q⟩:=i u rfl;refine DX n l d _ _ _ f v j (ze ?_) h;split<;>omega
  ·rw[za e] at h;simp only[zs,yo] at h;obtain⟨_,rfl⟩:=h;omega
theorem Jz{n:Nat}{a:z9}{p f v:Nat}(c:Qc J)(h:lU n J p f=some (a,some v)):v<=1000:=by
 unfold lU at h;by_cases b:p≥5∨(J.je.getD p []).length=0
 ·rw[zb b] at h;simp at h
 ·rw[za b] at h;exact DX n J _ f 0 0 a v c (zf (by omega)) h
theorem Gl(w:World)(d:Nat)(J:z9)(P:xr)(n:Nat)(B:z9)(b:Bool)(h:P2 lo w d J P)(U:kl n J J.ql=some (B,b)):
  Calls prog 224 #[.pointer (some ⟨d,0,none⟩)] w fun e z=>e=.returned (.bool b)/\P2 lo z d B P/\zd (d::P.sv.ownBlock.toList) w z:=by
 have HJ:=OY h;have HR:=OY U;obtain⟨E,K,_,_,_,_,_,_,H,_⟩:=h.at;clear h U;go_enter func224,ntmps224;go_wp2;clear H E K;go_loopg [3] n (fun k v3 wr=>∃(i:z9) (o:Int),v3=.int .i64 o/\Hid (kl k i o=some (B,b))/\Hid (P2 lo wr d i P)/\zd (d::P.sv.ownBlock.toList) w wr)
 case atStart=>exact⟨J,J.ql,rfl,HR,HJ,zd.refl _ _⟩
 case round=>
  obtain⟨i,o,rfl,O,c,l⟩:=hrel;obtain⟨E,K,_,_,ac,_⟩:=c.out.at;have ad:=c.out.few.2.2;cases gk with
  |zero=>have q:=O.out;simp[kl] at q
  |succ m=>
   have q:=O.out;unfold kl at q;by_cases f:0<=o/\o<i.vars/\o<5
   ·rw[zb f] at q;obtain⟨d1,d2,d3⟩:=f;obtain⟨p,rfl⟩:∃p:Nat,o=p:=⟨o.toNat,by omega⟩;have I:p<5:=by omega
    simp only[Int.toNat_natCast] at q;obtain⟨_,aa,ab⟩:=c.out.vals p I;cases D:lU m i p (i.from.getD p 0) with
    |none=>rw[D] at q;cases q
    |some ar=>
     obtain⟨g,L⟩:=ar;rw[D] at q;have y:Hid (Calls prog 227 #[.pointer (some ⟨d,0,none⟩),.int .i64 p,.int .i64 ((i.from.getD p 0:Nat):Int)] wr fun e z=>e=.returned (.tuple #[.int .i64 ((L.getD 0:Nat):Int),.bool L.isSome])/\P2 lo z d g P/\zd [d] wr z):=Lh wr d i P p _ m g L c.out D;cases L with
     |none=>
      simp only[kc,jW] at y;have j:Hid (kl m g (g.jg.getD p 0)=some (B,b)):=q;clear q D;generalize i.from.getD p 0=Z at *;go_wp2_with (first|(go_at_call 227;refine y.out.mono ?_;rintro e Q ⟨rfl,a,t⟩;have x:=OY a;obtain⟨Y,R,_⟩:=a.at;obtain⟨_,_,S⟩:=a.vals p I;clear a))
      go_roundg m
      case measure=>omega
      case rel=>exact⟨g,g.jg.getD p 0,rfl,j,x,l.trans (t.more (by simp))⟩
     |some v=>
      have hv:=Jz c.out.narrow D;simp only[uo,qJ] at y;have j:Hid (kl m (uE g p v) (if uB (uE g p v) (p+1)=true then(p:Int) else(p:Int)+1)=some (B,b)):=q;clear q D;have G:=OY fun W (N:P2 lo W d g P)=>Nl W d g P p v N (by omega);have F:Hid (∀W,P2 lo W d (uE g p v) P->Calls prog 223 #[.pointer (some ⟨d,0,none⟩),.int .i64 ((p:Int)+1)] W fun e z=>e=.returned (.bool (uB (uE g p v) (p+1)))/\Below W.heap.size W z):=fun W N=>by
       have q:=Cr W d _ P (p+1) N;rw[show((p+1:Nat):Int)=(p:Int)+1 from by omega] at q;exact q
      generalize i.from.getD p 0=Z at *;generalize uB (uE g p v) (p+1)=bb at *;generalize uE g p v=T at *;cases bb with
      |true=>
       rw[zb rfl] at j;go_wp2_with (first|(go_at_call 227;refine y.out.mono ?_;rintro e Q ⟨rfl,a,t⟩;have x:=OY a;clear a)|(go_at_call 228;refine(G.out _ x.out).mono ?_;rintro e w3 ⟨rfl,r,A⟩;have u:=OY r;clear r)|(go_at_call 223;refine(F.out _ u.out).mono ?_;rintro e w4 ⟨rfl,s⟩))
       go_roundg m
       case measure=>omega
       case rel=>exact⟨T,p,rfl,j,u.out.below s,((l.trans (t.more (by simp))).trans A).newer (zd.of (M:=[]) s) (by simp)⟩
      |false=>
       rw[za (by simp)] at j;go_wp2_with (first|(go_at_call 227;refine y.out.mono ?_;rintro e Q ⟨rfl,a,t⟩;have x:=OY a;clear a)|(go_at_call 228;refine(G.out _ x.out).mono ?_;rintro e w3 ⟨rfl,r,A⟩;have u:=OY r;clear r)|(go_at_call 223;refine(F.out _ u.out).mono ?_;rintro e w4 ⟨rfl,s⟩))
       go_roundg m
       case measure=>omega
       case rel=>exact⟨T,(p:Int)+1,rfl,j,u.out.below s,((l.trans (t.more (by simp))).trans A).newer (zd.of (M:=[]) s) (by simp)⟩
   ·rw[za f] at q;simp only[zs,yo] at q;obtain⟨V,X⟩:=q;have C:Hid (B=i/\b=decide (o≥i.vars)):=⟨V.symm,X.symm⟩;clear V X;by_cases g1:0<=o
    ·by_cases g2:o<(i.vars:Int)
     ·have g3:¬o<5:=by omega
      go_wp2;go_ret;exact⟨by rw[C.out.2];first|(simp;done)|(simp;omega),by rw[C.out.1];exact c.out,l⟩
     ·go_wp2;go_ret;exact⟨by rw[C.out.2];first|(simp;done)|(simp;omega),by rw[C.out.1];exact c.out,l⟩
    ·go_wp2;go_ret;exact⟨by rw[C.out.2];first|(simp;done)|(simp;omega),by rw[C.out.1];exact c.out,l⟩
theorem P2.setDepth{w:World}{a:Nat}{P:xr}(h:P2 lo w a J P)(m:Int):P2 lo (w.setCell ⟨a,26,none⟩ (.int .i64 m)) a {J with ql:=m} P:=by
 obtain⟨c,b,d⟩:=h.jk;refine h.rebox (zd.set _ _ _ _) ?_ rfl rfl rfl rfl rfl h.jk;obtain⟨F,l,v,o,C,g⟩:=five h.hlen.1;obtain⟨z,n,t,k,s,j⟩:=five c;obtain⟨y,D,x,q,p,i⟩:=five b;obtain⟨r,u,E,B,A,f⟩:=five d;have e:=h.box.set 26 (.int .i64 m);simpa [um,g,j,i,f] using e
theorem QE(w:World)(i:Nat)(J:z9)(P:xr)(n:Nat)(p:z9)(b:Bool)(h:P2 lo w i J P)(f:mq n J=some (p,b)):
  Calls prog 215 #[.pointer (some ⟨i,0,none⟩)] w fun e r=>e=.returned (.bool b)/\P2 lo r i p P/\zd (i::P.sv.ownBlock.toList) w r:=by
 unfold mq at f;cases m:kl n J J.ql with
 |none=>rw[m] at f;cases f
 |some v=>
  obtain⟨t,q⟩:=v;rw[m] at f;simp only[zs,yo] at f;obtain⟨x,rfl⟩:=f;have j:=OY (Gl w i J P n t q h m);have s:=OY x.symm;cases q with
  |false=>
   go_enter func215,ntmps215;go_wp2_with (first|(go_at_call 224;refine j.out.mono ?_;rintro e u ⟨rfl,a,c⟩;have d:=OY a;obtain⟨l,o,_,_,_,_,_,g,k,_⟩:=a.at;clear a))
   go_ret;exact⟨rfl,by rw[s.out];exact d.out.setDepth (-1),c.trans ((zd.set _ _ _ _).more (by simp))⟩
  |true=>
   go_enter func215,ntmps215;go_wp2_with (first|(go_at_call 224;refine j.out.mono ?_;rintro e u ⟨rfl,a,c⟩;have d:=OY a;obtain⟨l,o,_,_,_,_,_,g,k,_⟩:=a.at;clear a))
   go_ret;exact⟨rfl,by rw[s.out];exact(d.out.setDepth (-1)).setDepth t.last,(c.trans ((zd.set _ _ _ _).more (by simp))).trans ((zd.set _ _ _ _).more (by simp))⟩
end
section
open Go.Proofs.Tryz
variable {lo:Nat}
theorem K6(w:World)(b:Nat)(J:z9)(P:xr)(h:P2 lo w b J P):
  Calls prog 217 #[.pointer (some ⟨b,0,none⟩)] w fun e f=>e=.returned (.int .i64 J.jh)/\f=w:=by
 obtain⟨c,d,_,_,_,_,_,_,_,a⟩:=h.at;clear h;go_enter func217,ntmps217;go_wp2;go_ret;exact⟨rfl,rfl⟩
theorem Mm(w:World)(q:Nat)(J:z9)(P:xr)(h:P2 lo w q J P):
  Calls prog 216 #[.pointer (some ⟨q,0,none⟩)] w fun r D=>r=.returned (.agg #[.int .i64 ((Pa J.head J.qy 0:Nat):Int),.int .i64 ((Pa J.head J.qy 1:Nat):Int),.int .i64 ((Pa J.head J.qy 2:Nat):Int)])/\Below w.heap.size w D:=by
 obtain⟨A,u,L,j,_⟩:=h.at;obtain⟨a,b,c,d,e,f⟩:=five h.jk.2.1;have t:=(h.vals 0 (by omega)).1;have z:=(h.vals 1 (by omega)).1;have I:=(h.vals 2 (by omega)).1;have F:=(h.vals 3 (by omega)).1;have M:=(h.vals 4 (by omega)).1;rw[f] at t z I F M ⊢;obtain⟨K,o,k⟩:=h.head.qw;have s:=h.head;rw[k] at j s;have i:=OY fun W H=>wD W _ J.head.pred J.head.qg a b c d e (s.below H);generalize Pa J.head [a,b,c,d,e] 0=C at *;generalize Pa J.head [a,b,c,d,e] 1=G at *;generalize Pa J.head [a,b,c,d,e] 2=y at *;go_enter func216,ntmps216;go_wp2;go_region_with (go_at_call 161;refine(i.out _ (by exact(by go_grown))).mono ?_;rintro r E ⟨rfl,g⟩;have m:Below w.heap.size w E:=(zM (by go_grown) g (zh _));have l:=(OZ.drew (OZ.new w #[.int .i64 0,.int .i64 0,.int .i64 0] 165)).below g;obtain⟨n,x,B⟩:=l.boxed)
 all_goals
  go_wp2;exact zJ (v:=.agg #[.int .i64 C,.int .i64 G,.int .i64 y]) (by simp[results,results216,go_sem,n]) rfl ⟨rfl,((m.setCell (p:=⟨w.heap.size,0,none⟩) (by simp) _).setCell (p:=⟨w.heap.size,1,none⟩) (by simp) _).setCell (p:=⟨w.heap.size,2,none⟩) (by simp) _⟩
theorem OP:(prog.info? 327).map (fun i=>(i.zero,i.size,i.bytes))=some (some (.agg #[.int .i64 0,.int .i64 0]),2,16):=by kernel_rfl
def gH(b:Nat)(x:zt×Nat):Option (Nat×Nat):=(yX x.1 b).map fun a=>(x.2,a)
theorem o8(r:zr)(a:Nat):xy r a=r.qc.zipIdx.filterMap (gH a):=rfl
theorem Li(a:List zt)(b k:Nat)(d:k<a.length):(a.take (k+1)).zipIdx.filterMap (gH b)=(a.take k).zipIdx.filterMap (gH b)++((yX a[k] b).map fun c=>(k,c)).toList:=by
 rw[yM d,List.zipIdx_append,rE];congr 1;simp only[List.zipIdx_singleton,qa,uL,List.filterMap_cons,List.filterMap_nil,gH];rw[gP (by omega)];cases yX a[k] b<;>rfl
theorem N4(a:List (Nat×Nat))(x:Nat×Nat):jP (a++[x])=jP a++[.int .i64 (x.1:Nat),.int .i64 (x.2:Nat)]:=by simp[jP]
theorem LV(w:World)(tv I J:Value)(r:zr)(a:Nat)(h:uP lo w tv I J r)(hp:a<=1000000):
  Calls prog 221 #[kj r tv I J,.int .i64 a] w fun e s=>∃L,e=.returned L/\s.ownsRow w.heap.size 327 2 L (xy r a).length (jP (xy r a))/\Below w.heap.size w s:=by
 obtain⟨i0,hi,B,v,z⟩:=info_parts OP;obtain⟨ac,O,rfl⟩:=h.qc.qw;have Y:=h.qc.len;have hP:=h.qc;have Z:Hid (xy r a=r.qc.zipIdx.filterMap (gH a)):=rfl;unfold kj;clear h;generalize r.qc=c at *;go_enter func221,ntmps221;go_wp2;go_loopw [5,13] (fun T E wr=>∃k:Nat,k<=c.length/\E=.int .i64 k/\wr.ownsRow w.heap.size 327 2 T ((c.take k).zipIdx.filterMap (gH a)).length (jP ((c.take k).zipIdx.filterMap (gH a)))/\Below w.heap.size w wr) (fun _ i _=>c.length-(intOf i).toNat)
 case atStart=>exact⟨0,zv _,rfl,yK _ _ _ _,(by go_grown)⟩
 case round=>
  obtain⟨k,hk,rfl,b,f⟩:=hrel;have M:=f.size;have P:((c.take k).zipIdx.filterMap (gH a)).length<=k:=by
   have:=ra (gH a) (c.take k).zipIdx;simp at this;omega
  by_cases p:k<c.length
  ·obtain⟨g,y,q,D,Q,H,N,R⟩:=hP.cell k p;subst D;have aa:=zl f Q H;have X:=zl f Q N;have ab:g<wr.heap.size:=by omega
   have u:=OY (Li c a k p);have m:Hid (∀W,Below w.heap.size w W->Calls prog 187 #[.agg #[.int .i64 (c[k].pred:Nat),.slice y c[k].qg.length q],.int .i64 a] W fun e s=>e=.returned (.tuple #[.int .i64 (((yX c[k] a).getD 0:Nat):Int),.bool (yX c[k] a).isSome])/\Below W.heap.size W s):=fun W hW=>Et W _ c[k].pred a c[k].qg (R.below hW) hp;clear H N R;generalize c[k]=l at *;generalize (c.take k).zipIdx.filterMap (gH a)=C at *;generalize yX l a=U at *;cases U with
   |none=>
    simp only[Option.map_none,Option.toList_none,qA] at u;simp only[kc,jW] at m;go_wp2_with (first|(go_at_call 187;refine(m.out _ (by exact(by go_grown))).mono ?_;rintro e t ⟨rfl,n⟩;have d:Below wr.heap.size wr t:=(zM (by go_grown) n (zh _))))
    go_roundw
    case rel=>exact⟨k+1,by omega,by go_num,by rw[u.out];exact zE b d,Pc f d⟩
    case measure=>simp[intOf];omega
   |some V=>
    simp only[jZ,Option.toList_some] at u;simp only[uo,qJ] at m;obtain⟨F,o,rfl⟩:=zq b;go_wp2_with (first|(go_at_call 187;refine(m.out _ (by exact(by go_grown))).mono ?_;rintro e t ⟨rfl,n⟩;have d:Below wr.heap.size wr t:=(zM (by go_grown) n (zh _));have j:=zE b d;have ad:=d.size)|(at_builtin;refine d8 t _ [.int .i64 k,.int .i64 V] _ rfl (.tmp 25) (.tmp 29) 307 rfl w.heap.size 327 i0 _ 2 16 underlying307 hi B v z rfl (by decide) (.slice F C.length o) C.length (jP C) rfl j (zo _ _) _ _ rfl (by simp) rfl (by simp[Value.oneCell']) (by omega) (by omega) (by omega) ?_;intro v' w3 A G K))
    go_roundw
    case rel=>exact⟨k+1,by omega,by go_num,by rw[u.out,N4,yz];exact A,(Pc f d).trans (G.below (fun x S=>yW j (yv S)) (by omega))⟩
    case measure=>simp[intOf];omega
  ·rw[xk (by omega)] at b;go_wp2;go_ret;exact⟨_,rfl,by rw[Z.out];exact b,f⟩
end
section
variable {lo:Nat}{w w':World}{base tb b0:Nat}{v:Value}{xs:List Value}{c:Array Value}{T:zi}{fp:List Nat}
abbrev zn:=Nat×Nat×Nat
def PU(t:TypeId):Prop:=t≠229/\t≠273/\t≠3
instance (t:TypeId):Decidable (PU t):=by unfold PU;infer_instance
def Mu(w:World)(b:Nat):Prop:=∃c t,OZ w b c t/\¬PU t
theorem tM{t:TypeId}(h:t=229∨t=273∨t=3):¬PU t:=by
 rintro⟨a,b,c⟩;rcases h with h|h|h
 ·exact a h
 ·exact b h
 ·exact c h
theorem qr{e:TypeId}{a n:Nat}(h:w.ownsRow base e a v n xs){b:Nat}(f:v.ownBlock=some b):∃c,OZ w b c e:=by
 obtain⟨_,⟨d,_⟩|⟨g,k,i,d,_,j,_⟩⟩:=h
 ·subst d;cases f
 ·subst d;simp only[Value.ownBlock,zs] at f;subst f;exact⟨_,j⟩
theorem OZ.type{b:Nat}{e:Array Value}{t d:TypeId}(h:OZ w b c t)(a:OZ w b e d):t=d:=by
 unfold OZ at h a;rw[h] at a;simp at a;exact a.2
theorem zX.typed(h:zX lo w tb T fp):∀b∈fp,Mu w b:=by
 obtain⟨k,j,d,rfl⟩:=h;intro b a;simp only[PX,zw,zW] at a;rcases a with a|a|a
 ·subst a;exact⟨_,_,d.box,tM (zf rfl)⟩
 ·obtain⟨c,f⟩:=qr d.qi (yv a);exact⟨_,_,f,tM (ze (zf rfl))⟩
 ·obtain⟨i,g,e|e⟩:=wR a
  ·obtain⟨c,f⟩:=qr (d.leap i (by rw[←d.len];exact g) g) (b:=b) (by rw[e];rfl);exact⟨_,_,f,tM (ze (ze rfl))⟩
  ·obtain⟨c,f⟩:=qr (d.down i (by rw[←d.len];exact g) g) (b:=b) (by rw[e];rfl);exact⟨_,_,f,tM (ze (ze rfl))⟩
def yN(lo:Nat)(w:World)(own:Nat->zn)(ρ:zn)(tb:Nat)(T:zi):Prop:=∃fp,zX lo w tb T fp/\∀b∈fp,own b=ρ
structure Pe (lo:Nat) (ok:TypeId->zn->Prop) (w:World) (own:Nat->zn) (w':World) (own':Nat->zn):Prop where
 old:∀b,b<w.heap.size->own' b=own b
 save:∃M,zd M w w'/\∀b∈M,lo<=b/\b<w.heap.size/\∃c t,OZ w b c t/\ok t (own b)
def onT(rs:zn->Prop):TypeId->zn->Prop:=fun t ρ=>¬PU t/\rs ρ
def gd(l:List TypeId):TypeId->zn->Prop:=fun t _=>t∈l
def orK(a b:TypeId->zn->Prop):TypeId->zn->Prop:=fun t ρ=>a t ρ∨b t ρ
theorem Pe.of{ok:TypeId->zn->Prop}{w w':World}(own:Nat->zn)(a:Below w.heap.size w w'):Pe lo ok w own w' own:=⟨fun _ _=>rfl,[],zd.of a,by simp⟩
theorem Pe.refl{ok:TypeId->zn->Prop}(w:World)(own:Nat->zn):Pe lo ok w own w own:=Pe.of own (zo _ _)
theorem Pe.more{ok ok':TypeId->zn->Prop}{own a:Nat->zn}(h:Pe lo ok w own w' a)(g:∀t ρ,ok t ρ->ok' t ρ):Pe lo ok' w own w' a:=by
 obtain⟨f,M,d,l⟩:=h;refine⟨f,M,d,fun b e=>?_⟩;obtain⟨k,i,c,t,j,m⟩:=l b e;exact⟨k,i,c,t,j,g _ _ m⟩
theorem Pe.size{ok:TypeId->zn->Prop}{w w':World}{own a:Nat->zn}(h:Pe lo ok w own w' a):w.heap.size<=w'.heap.size:=by
 obtain⟨_,M,b,_⟩:=h;exact b.size
theorem Pe.trans{ok:TypeId->zn->Prop}{a b c:World}{l p o:Nat->zn}(h:Pe lo ok a l b p)(k:Pe lo ok b p c o):Pe lo ok a l c o:=by
 obtain⟨m,M,f,q⟩:=h;obtain⟨y,N,g,u⟩:=k;have s:=f.size;refine⟨fun x d=>(y x (by omega)).trans (m x d),M++N.filter (·<a.heap.size),⟨g.os.trans f.os,g.tape.trans f.tape,g.output.trans f.output,zT s g.size,fun x d j=>?_⟩,fun x d=>?_⟩
 ·simp only[zW,xY,not_or,not_and,decide_eq_true_eq] at j;exact(g.block x (by omega) fun i=>j.2 i d).trans (f.block x d j.1)
 ·simp only[zW,xY,decide_eq_true_eq] at d;rcases d with d|⟨d,e⟩
  ·exact q x d
  ·obtain⟨z,A,c,t,r,n⟩:=u x d;rw[m x e] at n;by_cases i:x∈M
   ·exact q x i
   ·exact⟨z,e,c,t,by unfold OZ at r ⊢;rw[←f.block x e i];exact r,n⟩
theorem Pe.ofSave{ok:TypeId->zn->Prop}(own:Nat->zn){M:List Nat}(d:zd M w w')(a:∀b∈M,lo<=b/\b<w.heap.size/\∃c t,OZ w b c t/\ok t (own b)):Pe lo ok w own w' own:=⟨fun _ _=>rfl,M,d,a⟩
theorem Pe.set{ok:TypeId->zn->Prop}{w:World}(own:Nat->zn){b:Nat}{c:Array Value}{t:TypeId}(a:OZ w b c t)(e:lo<=b)(f:ok t (own b))(o:Nat)(u:Value):Pe lo ok w own (w.setCell ⟨b,o,none⟩ u) own:=
 Pe.ofSave own (zd.set _ _ _ _) (fun x d=>by simp at d;subst d;exact⟨e,a.lt,_,_,a,f⟩)
theorem OZ.mod{ok:TypeId->zn->Prop}{own a:Nat->zn}{b:Nat}{t:TypeId}(h:OZ w b c t)(p:Pe lo ok w own w' a)(d:¬ok t (own b)):OZ w' b c t:=by
 obtain⟨_,M,f,i⟩:=p;refine h.save f fun g=>?_;obtain⟨_,_,j,k,q,e⟩:=i b g;rw[h.type q] at d;exact d e
theorem pz{ok:TypeId->zn->Prop}{own d:Nat->zn}{e:TypeId}{a n:Nat}(h:w.ownsRow base e a v n xs)(p:Pe lo ok w own w' d)(l:∀b,v.ownBlock=some b->¬ok e (own b)):w'.ownsRow base e a v n xs:=by
 obtain⟨_,M,i,m⟩:=p;refine yI h i fun b f j=>?_;obtain⟨c,k⟩:=qr h f;obtain⟨_,_,o,r,q,g⟩:=m b j;have:=l b f;rw[k.type q] at this;exact this g
theorem vd{ok:TypeId->zn->Prop}{own b:Nat->zn}{e:TypeId}{a n:Nat}(h:w.ownsRow base e a v n xs)(p:Pe lo ok w own w' b)(d:∀ρ,¬ok e ρ):w'.ownsRow base e a v n xs:=pz h p fun _ _=>d _
theorem zX.mod{ok:TypeId->zn->Prop}{own d:Nat->zn}(h:zX b0 w tb T fp)(p:Pe lo ok w own w' d)(l:∀b∈fp,∀t,¬PU t->¬ok t (own b)):zX b0 w' tb T fp:=by
 obtain⟨_,M,j,f⟩:=p;refine h.save j fun b e k=>?_;obtain⟨_,_,c,t,q,i⟩:=f b k;obtain⟨m,n,g,a⟩:=h.typed b e;rw[g.type q] at a;exact l b e t a i
theorem yN.mod{ok:TypeId->zn->Prop}{w w':World}{own a:Nat->zn}{ρ:zn}{tb:Nat}{T:zi}(h:yN lo w own ρ tb T)(p:Pe lo ok w own w' a)(g:∀t,¬PU t->¬ok t ρ):yN lo w' a ρ tb T:=by
 obtain⟨fp,f,e⟩:=h;exact⟨fp,f.mod p fun b d t i=>by rw[e b d];exact g t i,fun b d=>(p.old b (f.lt b d).2).trans (e b d)⟩
theorem qG{rs:zn->Prop}{t:TypeId}(h:PU t):∀ρ,¬onT rs t ρ:=fun _ q=>q.1 h
theorem yN.onT{rs:zn->Prop}{w w':World}{own a:Nat->zn}{ρ:zn}{tb:Nat}{T:zi}(h:yN lo w own ρ tb T)(p:Pe lo (onT rs) w own w' a)(b:¬rs ρ):yN lo w' a ρ tb T:=h.mod p fun _ _ q=>b q.2
theorem yh.mod{ok:TypeId->zn->Prop}{own a:Nat->zn}{ts:List zZ}(h:yh b0 w v ts)(p:Pe lo ok w own w' a)(b:∀ρ,¬ok 284 ρ):yh b0 w' v ts:=⟨vd h.own p b,h.len,h.num⟩
theorem ub.mod{b0:Nat}{ok:TypeId->zn->Prop}{w w':World}{own d:Nat->zn}{v:Value}{g:List zt}(h:ub b0 w v g)(p:Pe lo ok w own w' d)(m:∀ρ,¬ok 284 ρ)(f:∀ρ,¬ok 204 ρ):ub b0 w' v g:=by
 obtain⟨i,l,j,n,e⟩:=h;exact⟨i,vd l p f,j,n,fun k a b=>⟨(e k a b).1,(e k a b).2.1.mod p m,(e k a b).2.2⟩⟩
theorem uP.mod{b0:Nat}{ok:TypeId->zn->Prop}{w w':World}{own b:Nat->zn}{tv e f:Value}{r:zr}(h:uP b0 w tv e f r)(p:Pe lo ok w own w' b)(d:∀ρ,¬ok 284 ρ)(a:∀ρ,¬ok 204 ρ):uP b0 w' tv e f r:=⟨h.head.mod p d,h.qc.mod p d a,h.qp.mod p d a,h.small⟩
theorem Pq.mod{ok:TypeId->zn->Prop}{own b:Nat->zn}{a:List zk}(h:Pq b0 w v a)(p:Pe lo ok w own w' b)(d:∀ρ,¬ok 165 ρ):Pq b0 w' v a:=⟨vd h.1 p d,h.2⟩
def ext(own:Nat->zn)(n:Nat)(ρ:zn):Nat->zn:=fun b=>if b<n then own b else ρ
theorem g5(own:Nat->zn)(n:Nat)(ρ:zn)(b:Nat)(h:b<n):ext own n ρ b=own b:=by simp[ext,h]
theorem P3.mod{own:Nat->zn}{ρ:zn}{f:zi}{d:List Nat}(h:zX lo w tb T fp)(e:∀b∈fp,own b=ρ)(k:P3 lo w w' tb f fp d):
  yN lo w' (ext own w.heap.size ρ) ρ tb f/\Pe lo (onT (·=ρ)) w own w' (ext own w.heap.size ρ):=by
 refine⟨⟨d,k.trie,fun b a=>?_⟩,fun b a=>by simp[ext,a],fp,k.save,fun b a=>⟨(h.lt b a).1,(h.lt b a).2,?_⟩⟩
 ·unfold ext;split
  ·rcases k.qo b a with q|q
   ·exact e b q
   ·omega
  ·rfl
 ·obtain⟨c,t,i,g⟩:=h.typed b a;exact⟨c,t,i,g,e b a⟩
theorem Pe.extNew{ok:TypeId->zn->Prop}(own:Nat->zn)(ρ:zn)(a:Below w.heap.size w w'):Pe lo ok w own w' (ext own w.heap.size ρ):=⟨fun b h=>by simp[ext,h],[],zd.of a,by simp⟩
theorem zX.low{a b:Nat}{w:World}{tb:Nat}{T:zi}{fp:List Nat}(h:zX b w tb T fp)(e:a<=b):zX a w tb T fp:=by
 obtain⟨f,g,d,rfl⟩:=h;exact⟨f,g,⟨zT e d.low,d.box,yr d.qi e,d.len,fun i a b=>yr (d.leap i a b) e,fun i a b=>yr (d.down i a b) e,d.apart,d.wide,d.many,d.deep,d.few⟩,rfl⟩
theorem zX.new(own:Nat->zn)(ρ:zn)(h:zX w.heap.size w' tb T fp)(a:lo<=w.heap.size):yN lo w' (ext own w.heap.size ρ) ρ tb T:=
 ⟨fp,h.low a,fun b d=>by have:=(h.lt b d).1;simp[ext,Nat.not_lt.2 this]⟩
theorem yN.below{own:Nat->zn}{ρ:zn}(h:yN lo w own ρ tb T)(a:Below w.heap.size w w'):yN lo w' own ρ tb T:=h.mod (Pe.of (ok:=fun _ _=>False) own a) (fun _ _=>id)
theorem yN.set{w:World}{own:Nat->zn}{ρ:zn}{tb:Nat}{T:zi}(h:yN lo w own ρ tb T){b:Nat}{c:Array Value}{t:TypeId}(i:OZ w b c t)(j:PU t)(o:Nat)(u:Value):yN lo (w.setCell ⟨b,o,none⟩ u) own ρ tb T:=by
 obtain⟨fp,d,g⟩:=h;refine⟨fp,d.save (zd.set _ _ _ _) fun x f e=>?_,g⟩;simp at e;subst e;obtain⟨k,l,q,a⟩:=d.typed x f;rw[q.type i] at a;exact a j
end
section
variable {lo:Nat}{w w':World}{v:Value}{xs:List Value}{b:Nat}{c:Array Value}{M:List Nat}
def Px(w:World)(T:TypeId)(M:List Nat):Prop:=∀b∈M,∃c,OZ w b c T
theorem Px.own{a:Nat}{e:TypeId}{d n:Nat}(h:w.ownsRow a e d v n xs):Px w e v.ownBlock.toList:=fun _ f=>qr h (yv f)
theorem Px.box{T:TypeId}(h:OZ w b c T):Px w T [b]:=fun x a=>by simp at a;subst a;exact⟨c,h⟩
theorem yE{d:Nat}{e T:TypeId}{a n:Nat}(h:w.ownsRow d e a v n xs)(k:zd M w w')(g:Px w T M)(l:e≠T):w'.ownsRow d e a v n xs:=
 yI h k fun b i j=>by
  obtain⟨c,m⟩:=g b j;obtain⟨o,f⟩:=qr h i;exact l (f.type m)
theorem OZ.saveT{e T:TypeId}(h:OZ w b c e)(g:zd M w w')(d:Px w T M)(i:e≠T):OZ w' b c e:=
 h.save g fun f=>by
  obtain⟨j,a⟩:=d b f;exact i (h.type a)
theorem yh.saveT{a:Nat}{ts:List zZ}{T:TypeId}(h:yh a w v ts)(e:zd M w w')(d:Px w T M)(f:284≠T):yh a w' v ts:=⟨yE h.own e d f,h.len,h.num⟩
theorem ub.saveT{f:Nat}{w w':World}{v:Value}{e:List zt}{T:TypeId}{M:List Nat}(h:ub f w v e)(g:zd M w w')(j:Px w T M)(o:284≠T)(l:∀b,v.ownBlock=some b->b∉M):ub f w' v e:=by
 obtain⟨i,n,m,p,d⟩:=h;exact⟨i,yI n g l,m,p,fun k a b=>⟨(d k a b).1,(d k a b).2.1.saveT g j o,(d k a b).2.2⟩⟩
theorem ub.saveTT{i:Nat}{f:List zt}{T:TypeId}(h:ub i w v f)(j:zd M w w')(g:Px w T M)(o:284≠T)(e:204≠T):ub i w' v f:=by
 obtain⟨l,n,m,p,d⟩:=h;exact⟨l,yE n j g e,m,p,fun k a b=>⟨(d k a b).1,(d k a b).2.1.saveT j g o,(d k a b).2.2⟩⟩
theorem uP.saveT{j:Nat}{w w':World}{tv g i:Value}{r:zr}{T:TypeId}{M:List Nat}(h:uP j w tv g i r)(e:zd M w w')(d:Px w T M)(f:284≠T)(a:204≠T):uP j w' tv g i r:=⟨h.head.saveT e d f,h.qc.saveTT e d f a,h.qp.saveTT e d f a,h.small⟩
theorem yh.low{a:Nat}{ts:List zZ}(h:yh b w v ts)(d:a<=b):yh a w v ts:=⟨yr h.own d,h.len,h.num⟩
theorem ub.low{a b:Nat}{w:World}{v:Value}{e:List zt}(h:ub b w v e)(f:a<=b):ub a w v e:=by
 obtain⟨g,j,i,l,d⟩:=h;exact⟨g,yr j f,i,l,fun k a b=>⟨(d k a b).1,(d k a b).2.1.low f,(d k a b).2.2⟩⟩
theorem uP.low{a b:Nat}{w:World}{tv f e:Value}{r:zr}(h:uP b w tv f e r)(d:a<=b):uP a w tv f e r:=⟨h.head.low d,h.qc.low d,h.qp.low d,h.small⟩
theorem OZ.up{T:TypeId}(h:OZ w b c T)(o:Obj):OZ (w.alloc o) b c T:=h.below ((zo _ _).alloc (zh _) o)
theorem OZ.at'{b':Nat}{T:TypeId}(h:OZ w b c T)(e:b=b'):OZ w b' c T:=e ▸ h
theorem OZ.carry{W a:World}{T:TypeId}{G:Prop}(h:OZ W b c T)(d:Below W.heap.size W a)(k:OZ a b c T->G):G:=k (h.below d)
end
end Go.Proofs.YteampbddflhngaaGreat
