import Derived.Test.YteampbddflhngaaGreatZ09
namespace Go.Proofs.YteampbddflhngaaGreat
set_option linter.all false
set_option maxRecDepth 100000
set_option maxHeartbeats 4000000
open Go.RowKit
section
open Go.Proofs.Tryz
variable {lo:Nat}
def jH(lo:Nat)(w:World)(a:Nat)(v:Value)(ns:κ):Prop:=lo<=a/\Q6 w a #[v] 141/\QD lo w v ns
theorem jH.tab{w:World}{a:Nat}{v:Value}{ns:κ}(h:jH lo w a v ns):lR lo w a ns:=⟨h.1,v,h.2.1,h.2.2⟩
theorem jH.below{w w':World}{b:Nat}{v:Value}{ns:κ}(h:jH lo w b v ns)(a:μ w w'):jH lo w' b v ns:=⟨h.1,h.2.1.below a,h.2.2.below a⟩
def lY(ns:κ)(x:ByteArray):κ:=if uN ns x<ns.length/\ns.getD (uN ns x) ByteArray.empty=x then ns else ns.take (uN ns x)++x::ns.drop (uN ns x)
def oN(lo:Nat)(w:World)(b:Nat)(v:Value)(ns:κ)(e:Ending)(w':World):Prop:=e=ε (.tuple #[])/\∃a,jH lo w' b a ns/\ze (b::v.ownBlock.toList) w w'/\(a.ownBlock=v.ownBlock∨∃g,a.ownBlock=some g/\w.heap.size<=g)
theorem KR(ns:κ)(x:ByteArray)(k:Nat)(b:k<ns.length):(((ns.take (k+1)++x::ns.drop (k+1)).set (k+1) ns[k]).set k x)=ns.take k++x::ns.drop k:=by
 have a:(ns.take k).length=k:=by simp;omega
 rw[yM b,xp b,kH,fW _ _ (by omega),a,show k+1-k=1 from by omega,fW _ _ (by omega),a,jX];rfl
theorem Mx(w:World)(n:Nat)(v:Value)(ns:κ)(x:ByteArray)(h:jH lo w n v ns)(hl:ns.length<=900):
  Calls prog 157 #[(π n),.string x] w fun e w'=>oN lo w n v (lY ns x) e w':=by
 have HP:=Q5 (Bb w n ns x h.tab (by omega));have HH:=Q5 h;obtain⟨ac,P,hs⟩:=h;obtain⟨V,l,rfl⟩:=hs.qx;have HE:Hid (lY ns x=if uN ns x<ns.length/\ns.getD (uN ns x) ByteArray.empty=x then ns else ns.take (uN ns x)++x::ns.drop (uN ns x)):=rfl;generalize uN ns x=f at *;by_cases R:f<ns.length/\ns.getD f ByteArray.empty=x
 ·rw[zc R] at HE;obtain⟨Q,h2⟩:=R;rw[show ns.getD f ByteArray.empty=ns[f] from by simp[List.getD_eq_getElem?_getD,Q]] at h2;obtain⟨g,rfl,T,C⟩:=hs.cell f Q;have an:=gi h2;clear h2;generalize ns[f]=y at *;go_enter func157,ntmps157;go_wp2_with (go_at_call 168;refine HP.out.mono ?_;rintro r w' ⟨rfl,m,rfl⟩;have d:=P.below (zJ (zo _ _) m);obtain⟨hc,hf,E⟩:=d.boxed;have hx:=((zJ (zo w.heap.size w) m).cell (p:=⟨g,f,none⟩) T).trans C;have a0:g<(w.drewN m).heap.size:=T)
  (try simp only[Exit.inBlock,Exit.then]);refine zL (results_none rfl _ _ _) rfl ?_
  exact⟨rfl,_,by rw[HE.out];exact HH.out.below (zJ (zo _ _) m),ze.of (zJ (zo _ _) m),zf rfl⟩
 ·rw[za R] at HE;obtain⟨i0,hi,ai,al,ak⟩:=info_parts Qq;have aj:Hid (∀m,f<ns.length->∃(y:ByteArray) (g:Nat),V=some ⟨g,0,none⟩/\g<(w.drewN m).heap.size/\(w.drewN m).cell? ⟨g,f,none⟩=some (.string y)/\(y.toList == x.toList)=false):=fun m Q=>by
   obtain⟨g,e,T,C⟩:=hs.cell f Q;have hn:ns[f]≠x:=fun q=>R ⟨Q,by rw[←q];simp[List.getD_eq_getElem?_getD,Q]⟩;exact⟨ns[f],g,e,T,((zJ (zo w.heap.size w) m).cell (p:=⟨g,f,none⟩) T).trans C,jz hn⟩
  have au:lo<=w.heap.size:=by have:=P.lt;omega
  by_cases Q:f<ns.length
  ·obtain⟨yy,gg,Y,_⟩:=aj.out 0 Q;subst Y;go_enter func157,ntmps157;go_wp2_with (first|(go_at_call 168;refine HP.out.mono ?_;rintro r w' ⟨rfl,m,rfl⟩;have s:μ w (w.drewN m):=(zJ (zo _ _) m);have d:=P.below s;obtain⟨hc,hf,E⟩:=d.boxed;have K:=hs.below s;obtain⟨y,g,Y,T,hx,an⟩:=aj.out m Q;simp only[zt,Addr.mk.injEq] at Y;obtain⟨rfl,_⟩:=Y)|(at_builtin;refine kV (w.drewN m) _ [.string x] _ rfl (.tmp 31) (.tmp 33) 30 rfl lo 9 i0 _ 1 16 underlying30 hi ai al ak rfl (by decide) (.slice (some ⟨gg,0,none⟩) ns.length l) ns.length (ns.map Value.string) rfl K (zo _ _) _ _ rfl (by simp) rfl (by simp[Value.oneCell']) (by omega) (by omega) (by omega) ?_;intro v' S t A o;obtain⟨am,a,rfl⟩:=zp t;have c:=d.save A (qB K d (by decide));obtain⟨aa,ab,H⟩:=c.boxed))
   obtain⟨b,ah,N,U,ap,_⟩:=yv t (by omega);simp only[Value.slice.injEq] at N;obtain⟨rfl,_,I⟩:=N;clear I;have O:b≠n:=uy t c (by decide) rfl;have z:=c.set 0 (.slice (some ⟨b,0,none⟩) (ns.length+1) a);simp at z;have W:QD lo (S.setCell ⟨n,0,none⟩ (.slice (some ⟨b,0,none⟩) (ns.length+1) a)) (.slice (some ⟨b,0,none⟩) (ns.length+1) a) (ns.take ns.length++x::ns.drop ns.length):=by
    have q:=xO t ((QH.refl n S).setCell 0 (.slice (some ⟨b,0,none⟩) (ns.length+1) a)) c (by decide);unfold QD;simpa using q
   have G:∀y∈[b],y∈n::(Value.slice (some ⟨gg,0,none⟩) ns.length l).ownBlock.toList∨w.heap.size<=y:=fun y B=>by
    simp only[xF] at B;subst B;rcases o with q|⟨g,q,T⟩
    ·left;simp only[zx];right;rw[←q];simp[Value.ownBlock]
    ·right;simp only[Value.ownBlock,zt] at q;have:=s.size;omega
   have J:ze (n::(Value.slice (some ⟨gg,0,none⟩) ns.length l).ownBlock.toList) w (S.setCell ⟨n,0,none⟩ (.slice (some ⟨b,0,none⟩) (ns.length+1) a)):=((ze.of (M:=n::(Value.slice (some ⟨gg,0,none⟩) ns.length l).ownBlock.toList) s).newer A (fun y B=>zf (pg _ B))).newer (ze.set _ _ _ _) (fun y B=>zf (by simp at B;simp[B]));have L:(Value.slice (some ⟨b,0,none⟩) (ns.length+1) a).ownBlock=(Value.slice (some ⟨gg,0,none⟩) ns.length l).ownBlock∨∃g,(Value.slice (some ⟨b,0,none⟩) (ns.length+1) a).ownBlock=some g/\w.heap.size<=g:=o.imp id (fun⟨g,q1,q2⟩=>⟨g,q1,by have:=s.size;omega⟩);clear hc hf E aa ab H A o t;generalize S.setCell ⟨n,0,none⟩ (.slice (some ⟨b,0,none⟩) (ns.length+1) a)=w5 at *;generalize decide (f<ns.length)=bq;go_loopw [5] (fun v5 wr=>∃k:Nat,v5=ι k/\k<=ns.length/\(f<=k∨k=ns.length)/\Q6 wr n #[.slice (some ⟨b,0,none⟩) (ns.length+1) a] 141/\QD lo wr (.slice (some ⟨b,0,none⟩) (ns.length+1) a) (ns.take k++x::ns.drop k)/\ze (n::(Value.slice (some ⟨gg,0,none⟩) ns.length l).ownBlock.toList) w wr) (fun i _=>(intOf i).toNat)
   case atStart=>exact⟨ns.length,by go_num,zg _,zb rfl,z,W,J⟩
   case round=>
    obtain⟨k,rfl,hk,aq,F,u,D⟩:=hrel;obtain⟨hc,hf,E⟩:=F.boxed;by_cases ae:f<k
    ·obtain⟨j,rfl⟩:∃j,k=j+1:=⟨k-1,by omega⟩;have hj:j<ns.length:=by omega
     have ad:(ns.take (j+1)++x::ns.drop (j+1)).length=ns.length+1:=by simp;omega
     have av:b<wr.heap.size:=xK u rfl;have ax:=qT u;obtain⟨_,e0,_,ar⟩:=u.cell j (by omega);obtain⟨_,Y,_,az⟩:=u.cell (j+1) (by omega);simp only[zt,Addr.mk.injEq] at e0 Y;obtain⟨rfl,_⟩:=e0;obtain⟨rfl,_⟩:=Y;have ej:(ns.take (j+1)++x::ns.drop (j+1))[j]'(by omega)=ns[j]:=by
      rw[vq (by simp;omega)];simp
     rw[ej] at ar;have q1:=uZ u (j+1) (by simp;omega) (.string ns[j]);have q2:=uZ q1 j (by simp;omega) (.string x);have el:(((ns.take (j+1)++x::ns.drop (j+1)).map Value.string).set (j+1) (.string ns[j])).set j (.string x)=(ns.take j++x::ns.drop j).map Value.string:=by
      rw[←dU,←dU,KR ns x j hj]
     rw[el] at q2;have X:(ns.take j++x::ns.drop j).length=ns.length+1:=by simp;omega
     have ao:QD lo ((wr.setCell ⟨b,j+1,none⟩ (.string ns[j])).setCell ⟨b,j,none⟩ (.string x)) (.slice (some ⟨b,0,none⟩) (ns.length+1) a) (ns.take j++x::ns.drop j):=by
      unfold QD;rw[X];rw[ad] at q2;exact q2
     have af:=(F.set_ne (Ne.symm O) (j+1) (.string ns[j])).set_ne (Ne.symm O) j (.string x);have ag:=(D.newer (ze.set wr b (j+1) (.string ns[j])) G).newer (ze.set _ b j (.string x)) G;generalize (ns.take (j+1)++x::ns.drop (j+1))[j+1]'(by omega)=zz at *;clear ej q1 q2 el;generalize ns[j]=yj at *;have ay:(j:Int)<(ns.length:Int):=by omega
     go_wp2;go_region
     all_goals
      go_wp2;go_roundw
      case rel=>exact⟨j,by go_num,by omega,zf (by omega),af.below (zo _ _).drew,ao.below (zo _ _).drew,ag.newer (ze.of (M:=[]) (zo _ _).drew) (by simp)⟩
      case measure=>simp[intOf]
    ·have Z:Hid (ns.take k++x::ns.drop k=ns.take f++x::ns.drop f):=by
      rw[Hid];by_cases e:k=f
      ·rw[e]
      ·obtain rfl:k=ns.length:=by omega
       rw[xh (zg _),sm (zg _),xh (by omega),sm (by omega)]
     go_wp2;go_end0
     exact⟨rfl,_,by rw[HE.out,←Z.out];exact⟨ac,F,u⟩,D,L⟩
  ·have aw:ns.length<=f:=by omega
   go_enter func157,ntmps157;go_wp2_with (first|(go_at_call 168;refine HP.out.mono ?_;rintro r w' ⟨rfl,m,rfl⟩;have s:μ w (w.drewN m):=(zJ (zo _ _) m);have d:=P.below s;obtain⟨hc,hf,E⟩:=d.boxed;have K:=hs.below s)|(at_builtin;refine kV (w.drewN m) _ [.string x] _ rfl (.tmp 31) (.tmp 33) 30 rfl lo 9 i0 _ 1 16 underlying30 hi ai al ak rfl (by decide) (.slice V ns.length l) ns.length (ns.map Value.string) rfl K (zo _ _) _ _ rfl (by simp) rfl (by simp[Value.oneCell']) (by omega) (by omega) (by omega) ?_;intro v' S t A o;obtain⟨am,a,rfl⟩:=zp t;have c:=d.save A (qB K d (by decide));obtain⟨aa,ab,H⟩:=c.boxed))
   obtain⟨b,ah,N,U,ap,_⟩:=yv t (by omega);simp only[Value.slice.injEq] at N;obtain⟨rfl,_,I⟩:=N;clear I;have O:b≠n:=uy t c (by decide) rfl;have z:=c.set 0 (.slice (some ⟨b,0,none⟩) (ns.length+1) a);simp at z;have W:QD lo (S.setCell ⟨n,0,none⟩ (.slice (some ⟨b,0,none⟩) (ns.length+1) a)) (.slice (some ⟨b,0,none⟩) (ns.length+1) a) (ns.take ns.length++x::ns.drop ns.length):=by
    have q:=xO t ((QH.refl n S).setCell 0 (.slice (some ⟨b,0,none⟩) (ns.length+1) a)) c (by decide);unfold QD;simpa using q
   have G:∀y∈[b],y∈n::(Value.slice V ns.length l).ownBlock.toList∨w.heap.size<=y:=fun y B=>by
    simp only[xF] at B;subst B;rcases o with q|⟨g,q,T⟩
    ·left;simp only[zx];right;rw[←q];simp[Value.ownBlock]
    ·right;simp only[Value.ownBlock,zt] at q;have:=s.size;omega
   have J:ze (n::(Value.slice V ns.length l).ownBlock.toList) w (S.setCell ⟨n,0,none⟩ (.slice (some ⟨b,0,none⟩) (ns.length+1) a)):=((ze.of (M:=n::(Value.slice V ns.length l).ownBlock.toList) s).newer A (fun y B=>zf (pg _ B))).newer (ze.set _ _ _ _) (fun y B=>zf (by simp at B;simp[B]));have L:(Value.slice (some ⟨b,0,none⟩) (ns.length+1) a).ownBlock=(Value.slice V ns.length l).ownBlock∨∃g,(Value.slice (some ⟨b,0,none⟩) (ns.length+1) a).ownBlock=some g/\w.heap.size<=g:=o.imp id (fun⟨g,q1,q2⟩=>⟨g,q1,by have:=s.size;omega⟩);clear hc hf E aa ab H A o t;generalize S.setCell ⟨n,0,none⟩ (.slice (some ⟨b,0,none⟩) (ns.length+1) a)=w5 at *;generalize decide (f<ns.length)=bq;go_loopw [5] (fun v5 wr=>∃k:Nat,v5=ι k/\k<=ns.length/\(f<=k∨k=ns.length)/\Q6 wr n #[.slice (some ⟨b,0,none⟩) (ns.length+1) a] 141/\QD lo wr (.slice (some ⟨b,0,none⟩) (ns.length+1) a) (ns.take k++x::ns.drop k)/\ze (n::(Value.slice V ns.length l).ownBlock.toList) w wr) (fun i _=>(intOf i).toNat)
   case atStart=>exact⟨ns.length,by go_num,zg _,zb rfl,z,W,J⟩
   case round=>
    obtain⟨k,rfl,hk,aq,F,u,D⟩:=hrel;obtain⟨hc,hf,E⟩:=F.boxed;by_cases ae:f<k
    ·exact zC ae (by omega)
    ·have Z:Hid (ns.take k++x::ns.drop k=ns.take f++x::ns.drop f):=by
      rw[Hid];by_cases e:k=f
      ·rw[e]
      ·obtain rfl:k=ns.length:=by omega
       rw[xh (zg _),sm (zg _),xh (by omega),sm (by omega)]
     go_wp2;go_end0
     exact⟨rfl,_,by rw[HE.out,←Z.out];exact⟨ac,F,u⟩,D,L⟩
end
section
open Go.Proofs.Tryz
variable {lo:Nat}{cb:Nat}
def qH(ns:κ)(t:ByteArray):κ:=if zO t then ns else lY ns t
def uA(ns:κ)(l:zj):κ:=l.args.foldl qH ns
def qI(ns:κ)(c:zd):κ:=c.body.foldl uA (uA ns c.head)
def zq(cs:List zd):κ:=cs.foldl qI []
theorem Jg(ns:κ)(t:ByteArray):(qH ns t).length<=ns.length+1:=by
 unfold qH;split
 ·omega
 ·unfold lY;split
  ·omega
  ·simp only[yp,xd,qt,List.length_drop];omega
theorem wJ(ts:κ):∀a:κ,(ts.foldl qH a).length<=a.length+ts.length:=by
 induction ts with
 |nil=>intro a;simp
 |cons t ts b=>intro a;have:=b (qH a t);have:=Jg a t;simp only[ut,xd];omega
def kp(l:zj):Nat:=l.args.length
def gx(a:List zj):Nat:=(a.map kp).sum
def fI(cs:List zd):Nat:=(cs.map fun c=>kp c.head+gx c.body).sum
theorem Ag(b:List zj):∀a:κ,(b.foldl uA a).length<=a.length+gx b:=by
 induction b with
 |nil=>intro a;simp[gx]
 |cons l b c=>intro a;have:=c (uA a l);have:=wJ l.args a;simp only[ut,gx,xI,vQ,kp] at *;unfold uA at *;omega
theorem Ek(cs:List zd):∀a:κ,(cs.foldl qI a).length<=a.length+fI cs:=by
 induction cs with
 |nil=>intro a;simp[fI]
 |cons c cs b=>intro a;have:=b (qI a c);have:=Ag c.body (uA a c.head);have:=wJ c.head.args a;simp only[ut,fI,xI,vQ] at *;unfold qI kp at *;unfold uA at *;omega
theorem I7(a:List zj)(k:Nat)(b:k<a.length):gx (a.take k)+kp a[k]<=gx a:=by
 have e:a=a.take k++a[k]::a.drop (k+1):=by rw[←xp b,qZ]
 conv=>rhs;rw[e]
 simp only[gx,uQ,xI,List.sum_append,vQ];omega
theorem Jo(cs:List zd)(k:Nat)(a:k<cs.length):fI (cs.take k)+(kp cs[k].head+gx cs[k].body)<=fI cs:=by
 have e:cs=cs.take k++cs[k]::cs.drop (k+1):=by rw[←xp a,qZ]
 conv=>rhs;rw[e]
 simp only[fI,uQ,xI,List.sum_append,vQ];omega
def fP(cb:Nat)(w w':World):Prop:=∀b c t,b≠cb->9≠t->Q6 w b c t->Q6 w' b c t
theorem fP.of{w w':World}(h:μ w w'):fP cb w w':=fun _ _ _ _ _ q=>q.below h
theorem fP.trans{a b c:World}(h:fP cb a b)(k:fP cb b c):fP cb a c:=fun _ _ _ n m q=>k _ _ _ n m (h _ _ _ n m q)
theorem oN.next{B:Nat}{j w w':World}{v:Value}{ns d:κ}{e:Ending}(a:jH B w cb v ns)(l:Below B j w)(h:oN B w cb v d e w'):e=ε (.tuple #[])/\∃i,jH B w' cb i d/\Below B j w'/\fP cb w w':=by
 obtain⟨rfl,i,m,k,p⟩:=h;refine⟨rfl,i,m,l.trans (k.below (fun x g=>?_) ?_),fun b c t o n q=>q.save k fun f=>?_⟩
 ·simp only[zx] at g;rcases g with rfl|g
  ·exact a.1
  ·exact yW a.2.2 (yt g)
 ·have:=a.1;have:=a.2.1.lt;omega
 ·simp only[zx] at f;rcases f with rfl|f
  ·exact o rfl
  ·exact uy a.2.2 q n (yt f) rfl
theorem LR(d w:World)(cb:Nat)(v:Value)(ns:κ)(l:zj)(M:Value)(hs:QD lo d M l.args)(K:μ d w)(h:jH d.heap.size w cb v ns)(I:ns.length+kp l<=900):
  Calls prog 113 #[(π cb),.agg #[.bool l.neg,.string l.pred,M]] w fun e f=>e=ε (.tuple #[])/\∃o,jH d.heap.size f cb o (uA ns l)/\μ d f/\fP cb w f:=by
 obtain⟨Z,Y,rfl⟩:=hs.qx;have X:=Q5 fun(W:World) (v:Value) (ns:κ) (x:ByteArray) (a:jH d.heap.size W cb v ns) (b:ns.length<=900)=>Mx W cb v ns x a b;have S:Hid (uA ns l=l.args.foldl qH ns):=rfl;have N:=Q5 h;have V:=K.size;have U:l.args.length<=900:=by unfold kp at I;omega
 have A:Hid (∀k,k<l.args.length->((l.args.take k).foldl qH ns).length<=900):=fun k O=>by
  have:=wJ (l.args.take k) ns;simp only[qt] at this;unfold kp at I;omega
 generalize l.args=j at *;go_enter func113,ntmps113;go_wp2;go_loopw [9] (fun P wr=>∃(k:Nat) (o:Value),k<=j.length/\P=ι k/\Hid (jH d.heap.size wr cb o ((j.take k).foldl qH ns))/\μ d wr/\Hid (fP cb w wr)) (fun i _=>j.length-(intOf i).toNat)
 case atStart=>exact⟨0,v,zv _,rfl,N.out.below (by go_grown),K.alloc V _,fP.of (by go_grown)⟩
 case round=>
  obtain⟨k,o,O,rfl,q,c,H⟩:=hrel;have L:=c.size;by_cases p:k<j.length
  ·obtain⟨g,rfl,R,n⟩:=hs.cell k p;have T:=zl c R n;have J:Hid ((j.take (k+1)).foldl qH ns=qH ((j.take k).foldl qH ns) j[k]):=by rw[Hid,yM p,j7];rfl
   have y:=A.out k p;have r:Hid (∀a x,qH a x=if zO x then a else lY a x):=fun _ _=>rfl;generalize (j.take k).foldl qH ns=s at *;generalize j[k]=x at *;cases B:zO x with
   |true=>
    have G:Hid (∀W,Calls prog 156 #[.string x] W fun e f=>e=ε (.bool true)/\f=W):=fun W=>by rw[←B];exact la x W
    have D:Hid (qH s x=s):=by rw[Hid,r.out,B];rfl
    go_wp2_with (go_at_call 156;refine(G.out _).mono ?_;rintro e f ⟨rfl,m⟩;obtain rfl:=m.symm)
    go_roundw
    case rel=>exact⟨k+1,o,by omega,by go_num,by rw[J.out,D.out];exact q.out,c,H⟩
    case measure=>simp[intOf];omega
   |false=>
    have G:Hid (∀W,Calls prog 156 #[.string x] W fun e f=>e=ε (.bool false)/\f=W):=fun W=>by rw[←B];exact la x W
    have D:Hid (qH s x=lY s x):=by rw[Hid,r.out,B];rfl
    go_wp2_with (first|(go_at_call 156;refine(G.out _).mono ?_;rintro e f ⟨rfl,m⟩;obtain rfl:=m.symm)|(go_at_call 157;refine(X.out wr o s x q.out y).mono ?_;intro e w2 z;obtain⟨rfl,Q,t,F,u⟩:=z.next q.out c;have C:=Q5 (H.out.trans u);clear u;have E:=Q5 t;clear z t))
    go_roundw
    case rel=>exact⟨k+1,Q,by omega,by go_num,by rw[J.out,D.out];exact E.out,F,C⟩
    case measure=>simp[intOf];omega
  ·rw[xh (by omega)] at q;go_wp2;go_end0
   exact⟨rfl,o,by rw[S.out];exact q.out,c,H.out⟩
def DV(cs:List zd):Prop:=fI cs<=900/\cs.length<=1000/\∀c∈cs,c.body.length<=1000
theorem N6(w:World)(v:Value)(cs:List zd)(h:Rh lo 171 w v cs)(hf:DV cs):
  Calls prog 72 #[v] w fun e w'=>∃s,e=ε (.agg #[s])/\QD w.heap.size w' s (zq cs)/\μ w w':=by
 obtain⟨ao,aM,rfl⟩:=h.qx;obtain⟨aL,aK,a3⟩:=hf;have HA:=Q5 fun(W:World) (v:Value) (ns:κ) (l:zj) (va:Value) (a:QD lo w va l.args) (b:μ w W) (c:jH w.heap.size W (w.heap.size+1) v ns) (d:ns.length+kp l<=900)=>LR w W _ v ns l va a b c d;have HE:Hid (zq cs=cs.foldl qI []):=rfl;have HH:=Q5 h;have O:Hid (∀k (hk:k<cs.length),((cs.take k).foldl qI []).length+kp cs[k].head+gx cs[k].body<=900):=fun k hk=>by
  have:=Ek (cs.take k) [];have:=Jo cs k hk;simp only[dD] at *;omega
 have Z:=(Q6.new w #[ν] 141).below ((zo _ _).alloc (zg _) (.cells #[ν] 141));have U:=Q6.new (w.alloc (.cells #[ν] 141)) #[ν] 141;have am:μ w ((w.alloc (.cells #[ν] 141)).alloc (.cells #[ν] 141)):=(by go_grown);simp only[World.size_alloc] at U;go_enter func72,ntmps72;go_wp2;generalize ((w.alloc (.cells #[ν] 141)).alloc (.cells #[ν] 141))=wA at *;go_loopw [10] (fun aj wr=>∃(k:Nat) (s:Value),k<=cs.length/\aj=ι k/\Hid (jH w.heap.size wr (w.heap.size+1) s ((cs.take k).foldl qI []))/\Q6 wr w.heap.size #[ν] 141/\μ w wr) (fun i _=>cs.length-(intOf i).toNat)
 case atStart=>exact⟨0,_,zv _,rfl,⟨by omega,U,QD.nil _⟩,Z,am⟩
 case round=>
  obtain⟨k,s,hk,rfl,P,o,m⟩:=hrel;have a7:=m.size;by_cases q:k<cs.length
  ·obtain⟨g,ad,S,ar,Q,u,X,q0,q1,q2,q3,az,J⟩:=HH.out.cell k q;subst u;have a2:=zl m X q0;have ax:=zl m X q1;have ay:=zl m X q2;have af:=zl m X q3;have aF:g<wr.heap.size:=by omega
   have HS:Hid ((cs.take (k+1)).foldl qI []=qI ((cs.take k).foldl qI []) cs[k]):=by rw[Hid,yM q,j7];rfl
   have H:=O.out k q;have av:=a3 _ (zs q);have aa:Hid (∀a c,qI a c=c.body.foldl uA (uA a c.head)):=fun _ _=>rfl;clear q0 q1 q2 q3;generalize (cs.take k).foldl qI []=V at *;generalize cs[k]=c at *;have aw:=Q5 fun W a b=>HA.out W s V c.head _ az b a (by omega);have F:=(Q6.new wr #[.bool c.head.neg,.string c.head.pred,.slice ad c.head.args.length S,.slice ar c.body.length Q] 171);go_upto_region 6 with (go_at_call 113;refine(aw.out _ (P.out.below (by go_grown)) (zQ m (by go_grown) (zg _))).mono ?_;rintro e w2 ⟨rfl,v2,E,L,D⟩)
   have a5:=P.out.2.1.lt;have N:=D _ _ _ (by omega) (by decide) F;have T:=D _ _ _ (by omega) (by decide) (o.below zT);obtain⟨ag,ae,au⟩:=N.boxed;have aC:=L.size;have G:=Q5 E;have B:Hid ((uA V c.head).length+gx c.body<=900):=by
    have:=wJ c.head.args V;unfold kp at H;unfold Hid uA;omega
   clear D F E a2 ax ay af;go_wp2;clear ag ae au;obtain⟨f,C⟩:∃f,f=c.body:=⟨_,rfl⟩;have Y:=Q5 C;rw[←C] at J av B ⊢;clear C;obtain⟨t,A⟩:∃t,t=uA V c.head:=⟨_,rfl⟩;have ap:=Q5 A;rw[←A] at G B;clear A;go_loopw [20] (fun aq wr=>∃(j:Nat) (s:Value),j<=f.length/\aq=ι j/\Hid (jH w.heap.size wr (w.heap.size+1) s ((f.take j).foldl uA t))/\Q6 wr w.heap.size #[ν] 141/\μ w wr) (fun i _=>f.length-(intOf i).toNat)
   case atStart=>exact⟨0,_,zv _,rfl,G,T,L⟩
   case round=>
    obtain⟨j,v3,hj,rfl,x,r,n⟩:=hrel;have a4:=n.size;by_cases p:j<f.length
    ·obtain⟨gl,a9,a6,u,z,p0,p1,p2,al⟩:=J.cell j p;subst u;have aE:=zl n z p0;have aB:=zl n z p1;have aJ:=zl n z p2;have a8:gl<wr.heap.size:=by omega
     have ah:Hid ((f.take (j+1)).foldl uA t=uA ((f.take j).foldl uA t) f[j]):=by rw[Hid,yM p,j7];rfl
     have y:((f.take j).foldl uA t).length+kp f[j]<=900:=by
      have:=Ag (f.take j) t;have:=I7 f j p;have:=B.out;omega
     clear p0 p1 p2;generalize (f.take j).foldl uA t=nj at *;generalize f[j]=l at *;have ab:=Q5 fun W a b=>HA.out W v3 nj l _ al b a y;go_wp2_with (go_at_call 113;refine(ab.out _ (x.out.below (by go_grown)) (zQ n (by go_grown) (zg _))).mono ?_;rintro e w4 ⟨rfl,v4,M,an,K⟩;have a0:=Q5 M;have R:=K _ _ _ (by omega) (by decide) (r.below zT);clear M K)
     go_roundw
     case rel=>exact⟨j+1,v4,by omega,by go_num,by rw[ah.out];exact a0.out,R,an⟩
     case measure=>simp[intOf];omega
    ·rw[xh (by omega),Y.out] at x;have HQ:Hid (jH w.heap.size wr (w.heap.size+1) v3 ((cs.take (k+1)).foldl qI [])):=by rw[Hid,HS.out,aa.out,←ap.out];exact x.out
     go_wp2;go_roundw
     case rel=>exact⟨k+1,v3,by omega,by go_num,HQ,r,n⟩
     case measure=>simp[intOf];omega
  ·rw[xh (by omega)] at P;obtain⟨a1,I,rfl⟩:=P.out.2.2.qx;obtain⟨aH,ak,ai⟩:=P.out;obtain⟨aD,aG,aN⟩:=ak.boxed;obtain⟨ac,aI,aA⟩:=o.boxed;go_wp2
   (try simp only[Exit.inBlock,Exit.then])
   exact zL (v:=.agg #[.slice a1 (cs.foldl qI []).length I]) (by simp[results,results72,go_sem,ac]) rfl ⟨_,rfl,by rw[HE.out];exact(ai.but ((QH.refl w.heap.size wr).setCell 0 _) o (by decide)),m.setCell (by simp) _⟩
end
section
open Go.Proofs.Tryz
variable {lo:Nat}
def TG(B:Nat)(w:World)(tb o:Nat)(t:List zh):Prop:=∃a,tb<w.heap.size/\w.cell? ⟨tb,o,none⟩=some a/\w.ownsRow B 221 3 a t.length (xW t)
theorem TG.below{B:Nat}{w w':World}{tb o:Nat}{t:List zh}(h:TG B w tb o t)(a:μ w w'):TG B w' tb o t:=by
 obtain⟨e,c,b,d⟩:=h;exact⟨e,by have:=a.size;omega,(zl a c b),zB d a⟩
theorem TG.view{B:Nat}{w:World}{tb o:Nat}{t:List zh}(h:TG B w tb o t):∃b a,w.cell? ⟨tb,o,none⟩=some (.slice b t.length a)/\w.ownsRow B 221 3 (.slice b t.length a) t.length (xW t):=by
 obtain⟨e,_,d,c⟩:=h;obtain⟨b,a,rfl⟩:=zp c;exact⟨b,a,d,c⟩
theorem Di(B:Nat)(w:World)(tb o:Nat)(t:List zh)(n:ByteArray)(h:TG B w tb o t)(s:t.length<=1000):
  Calls prog 126 #[.pointer (some ⟨tb,o,none⟩),.string n] w fun e p=>e=ε (ι (zV t n))/\p=w:=by
 obtain⟨v,m,r,c⟩:=h.view;go_enter func126,ntmps126;go_wp2;go_loop [5] (fun i=>∃k:Nat,k<=t.length/\i=ι k/\Hid (∀j (a:j<t.length),j<k->QY t[j].name n=true)) (fun i=>t.length-(intOf i).toNat)
 case atStart=>exact⟨0,zv _,rfl,fun j a h=>by omega⟩
 case round=>
  obtain⟨k,x,rfl,H⟩:=hrel;by_cases b:k<t.length
  ·obtain⟨g,rfl,u,_,q,_,_⟩:=kI c k b;cases f:QY t[k].name n with
   |true=>
    have d:Hid (∀j (a:j<t.length),j<k+1->QY t[j].name n=true):=fun j a h=>by
     rcases dI j k with l|l
     ·exact H.out j a l
     ·obtain rfl:j=k:=by omega
      exact f
    unfold QY at f;go_wp2;go_round
    case rel=>exact⟨k+1,by omega,by go_num,d⟩
    case measure=>simp[intOf];omega
   |false=>
    have d:=Q5 (EH t n k H.out b f);unfold QY at f;go_wp2;go_ret;exact⟨by rw[d.out];rfl,rfl⟩
  ·have d:Hid (zV t n=k):=by
    have:=BB t n (fun j a=>H.out j a (by omega));unfold Hid;omega
   go_wp2;go_ret;exact⟨by rw[d.out];rfl,rfl⟩
theorem Ce(B:Nat)(w:World)(tb o:Nat)(t:List zh)(n:ByteArray)(h:TG B w tb o t)(k:t.length<=1000)(i:yo t n=none):
  Calls prog 77 #[.pointer (some ⟨tb,o,none⟩),.string n] w fun e f=>e=ε (.tuple #[ι 0,.bool false])/\f=w:=by
 have c:=Di B w tb o t n h k;obtain⟨s,l,p,b⟩:=h.view;have a:=Q5 c;rcases tW i with j|⟨j,d⟩
 ·clear i;go_enter func77,ntmps77;go_wp2_with (go_at_call 126;refine a.out.mono ?_;rintro e f ⟨rfl,rfl⟩;clear a)
  go_ret2
  exact⟨rfl,rfl⟩
 ·obtain⟨g,rfl,r,_,m,_,_⟩:=kI b _ j;have q:=jz d;go_enter func77,ntmps77;go_wp2_with (go_at_call 126;refine a.out.mono ?_;rintro e f ⟨rfl,rfl⟩;clear a)
  go_ret2
  exact⟨rfl,rfl⟩
theorem BT(B:Nat)(w:World)(tb o:Nat)(t:List zh)(n:ByteArray)(k:zh)(h:TG B w tb o t)(l:t.length<=1000)(q:yo t n=some k):
  Calls prog 77 #[.pointer (some ⟨tb,o,none⟩),.string n] w fun e j=>e=ε (.tuple #[ι (zV t n),.bool true])/\j=w:=by
 have c:=Di B w tb o t n h l;obtain⟨v,m,s,b⟩:=h.view;have a:=Q5 c;obtain⟨r,d,p⟩:=jR q;obtain⟨g,rfl,u,_,i,_,f⟩:=kI b _ r;rw[d] at i f;go_enter func77,ntmps77;go_wp2_with (go_at_call 126;refine a.out.mono ?_;rintro e j ⟨rfl,rfl⟩;clear a)
 go_ret2
 exact⟨rfl,rfl⟩
theorem O3(B:Nat)(w:World)(tb o:Nat)(t:List zh)(n:ByteArray)(h:TG B w tb o t)(a:t.length<=1000)(b:yo t n=none):
  Calls prog 159 #[.pointer (some ⟨tb,o,none⟩),.string n] w fun e c=>e=ε (.tuple #[ι 0,.bool false])/\c=w:=by
 have d:=Q5 (Ce B w tb o t n h a b);clear h b a;go_enter func159,ntmps159;go_wp2_with (go_at_call 77;refine d.out.mono ?_;rintro e c ⟨rfl,rfl⟩;clear d)
 go_ret2
 exact⟨rfl,rfl⟩
theorem Hn(B:Nat)(w:World)(tb o:Nat)(t:List zh)(n:ByteArray)(b:zh)(h:TG B w tb o t)(i:t.length<=1000)(c:yo t n=some b):
  Calls prog 159 #[.pointer (some ⟨tb,o,none⟩),.string n] w fun e d=>e=ε (.tuple #[ι b.qh,.bool true])/\d=w:=by
 have f:=Q5 (BT B w tb o t n b h i c);obtain⟨u,k,r,a⟩:=h.view;obtain⟨m,j,l⟩:=jR c;obtain⟨g,rfl,s,_,q,_,p⟩:=kI a _ m;go_enter func159,ntmps159;go_wp2_with (go_at_call 77;refine f.out.mono ?_;rintro e d ⟨rfl,rfl⟩;clear f)
 go_ret2
 exact⟨rfl,rfl⟩
def zP(t:List zh)(n:ByteArray):Nat:=if (yo t n).isSome then zV t n else 0
def xt(t:List zh)(n:ByteArray):Nat:=match yo t n with|some e=>e.qh|none=>0
theorem MA(B:Nat)(w:World)(tb o:Nat)(t:List zh)(n:ByteArray)(h:TG B w tb o t)(a:t.length<=1000):
  Calls prog 77 #[.pointer (some ⟨tb,o,none⟩),.string n] w fun e c=>e=ε (.tuple #[ι (zP t n:Nat),.bool (yo t n).isSome])/\c=w:=by
 unfold zP;cases b:yo t n with
 |none=>exact Ce B w tb o t n h a b
 |some d=>exact BT B w tb o t n d h a b
theorem MB(B:Nat)(w:World)(tb o:Nat)(t:List zh)(n:ByteArray)(h:TG B w tb o t)(a:t.length<=1000):
  Calls prog 159 #[.pointer (some ⟨tb,o,none⟩),.string n] w fun e c=>e=ε (.tuple #[ι (xt t n:Nat),.bool (yo t n).isSome])/\c=w:=by
 unfold xt;cases b:yo t n with
 |none=>exact O3 B w tb o t n h a b
 |some d=>exact Hn B w tb o t n d h a b
def uK(t:List zh)(i:Nat):Nat:=(t.map (·.jh)).getD i 0
theorem KM(B:Nat)(w:World)(tb o:Nat)(t:List zh)(h:TG B w tb o t):
  Calls prog 115 #[.pointer (some ⟨tb,o,none⟩)] w fun e c=>e=ε (ι t.length)/\c=w:=by
 obtain⟨f,b,d,a⟩:=h.view;clear h;go_enter func115,ntmps115;go_wp2;go_ret;exact⟨rfl,rfl⟩
theorem Hm(B:Nat)(w:World)(tb o:Nat)(t:List zh)(i:Nat)(h:TG B w tb o t):
  Calls prog 80 #[.pointer (some ⟨tb,o,none⟩),ι i] w fun e f=>e=ε (ι (uK t i:Nat))/\f=w:=by
 obtain⟨m,d,k,a⟩:=h.view;by_cases c:i<t.length
 ·obtain⟨g,rfl,l,_,_,j,_⟩:=kI a i c;have b:Hid (uK t i=t[i].jh):=by simp[Hid,uK,c]
  go_enter func80,ntmps80;go_wp2;go_ret;exact⟨by rw[b.out];rfl,rfl⟩
 ·have b:Hid (uK t i=0):=by simp[Hid,uK,List.getD_eq_getElem?_getD,List.getElem?_eq_none (Nat.not_lt.1 c)]
  go_enter func80,ntmps80;go_wp2;go_ret;exact⟨by rw[b.out];rfl,rfl⟩
theorem GX(w:World)(f:Nat)(d:Value)(vs:κ)(t:ByteArray)(n:w.cell? ⟨f,0,none⟩=some d)(hs:QD lo w d vs)(o:vs.length<=1000):
  Calls prog 200 #[(π f),.string t] w fun e l=>e=ε (.tuple #[ι ((yu vs t).getD 0:Nat),.bool (yu vs t).isSome])/\l=w:=by
 obtain⟨q,j,rfl⟩:=hs.qx;go_enter func200,ntmps200;go_wp2;go_loop [13] (fun i=>∃k:Nat,k<=vs.length/\i=ι k/\Hid (yu vs t=(yu (vs.drop k) t).map (·+k))) (fun i=>vs.length-(intOf i).toNat)
 case atStart=>exact⟨0,zv _,rfl,by simp[Hid]⟩
 case round=>
  obtain⟨k,r,rfl,H⟩:=hrel;by_cases a:k<vs.length
  ·obtain⟨g,rfl,p,m⟩:=hs.cell k a;by_cases c:vs[k]=t
   ·have h:=gi c;have b:Hid (yu vs t=some k):=by rw[Hid,H.out,oo a c];simp
    go_wp2;go_ret2
    exact⟨by rw[b.out];rfl,rfl⟩
   ·have h:=jz c;have b:Hid (yu vs t=(yu (vs.drop (k+1)) t).map (·+(k+1))):=by
     rw[Hid,H.out,iG a c];cases yu (vs.drop (k+1)) t<;>simp;omega
    go_wp2;go_round
    case rel=>exact⟨k+1,by omega,by go_num,b⟩
    case measure=>simp[intOf];omega
  ·have b:Hid (yu vs t=none):=by rw[Hid,H.out,ue (by omega)];rfl
   go_wp2;go_ret2
   exact⟨by rw[b.out];rfl,rfl⟩
theorem es(w:World)(b:Nat)(a:Value)(vs:κ)(f:w.cell? ⟨b,0,none⟩=some a)(hs:QD lo w a vs):
  Calls prog 146 #[(π b)] w fun e d=>e=ε (ι vs.length)/\d=w:=by
 obtain⟨g,c,rfl⟩:=hs.qx;go_enter func146,ntmps146;go_wp2;go_ret;exact⟨rfl,rfl⟩
end
section
variable {lo:Nat}{w:World}{v:Value}{o:Option (List Int)}
def uF(w:World)(v:Value)(o:Option (List Int)):Prop:=match o with
 |none=>v=ν
 |some l=>∃g f a,v=.slice (some ⟨g,f,none⟩) l.length a/\g<w.heap.size/\∀k (h:k<l.length),w.cell? ⟨g,f+k,none⟩=some (ι l[k])
theorem uF.below{w':World}(h:uF w v o)(b:μ w w'):uF w' v o:=by
 cases o with
 |none=>exact h
 |some l=>
  obtain⟨g,f,a,c,e,d⟩:=h;exact⟨g,f,a,c,by have:=b.size;omega,fun k i=>(b.cell (p:=⟨g,f+k,none⟩) e).trans (d k i)⟩
theorem uF.qx(h:uF w v o):∃c a,v=.slice c (o.getD []).length a:=by
 cases o with
 |none=>exact⟨none,0,h⟩
 |some l=>obtain⟨g,f,a,b,_⟩:=h;exact⟨_,a,b⟩
theorem uF.cell{w:World}{b:Option Addr}{n cap:Nat}{o:Option (List Int)}(h:uF w (.slice b n cap) o)(k:Nat)(c:k<(o.getD []).length):∃g f,b=some ⟨g,f,none⟩/\g<w.heap.size/\w.cell? ⟨g,f+k,none⟩=some (ι (o.getD [])[k]):=by
 cases o with
 |none=>simp at c
 |some l=>
  obtain⟨g,f,cap,a,e,d⟩:=h;simp only[Value.slice.injEq] at a;exact⟨g,f,a.1,e,d k c⟩
def jC(w:World)(v:Value)(os:Option (List (Option (List Int)))):Prop:=match os with
 |none=>v=ν
 |some l=>∃g f a,v=.slice (some ⟨g,f,none⟩) l.length a/\g<w.heap.size/\∀k (h:k<l.length),∃u,w.cell? ⟨g,f+k,none⟩=some u/\uF w u l[k]
theorem jC.below{w w':World}{v:Value}{os:Option (List (Option (List Int)))}(h:jC w v os)(a:μ w w'):jC w' v os:=by
 cases os with
 |none=>exact h
 |some l=>
  obtain⟨g,f,b,c,i,d⟩:=h;refine⟨g,f,b,c,by have:=a.size;omega,fun k j=>?_⟩;obtain⟨u,m,e⟩:=d k j;exact⟨u,(zl a i m),e.below a⟩
theorem jC.qx{os:Option (List (Option (List Int)))}(h:jC w v os):∃c a,v=.slice c (os.getD []).length a:=by
 cases os with
 |none=>exact⟨none,0,h⟩
 |some l=>obtain⟨g,f,a,b,_⟩:=h;exact⟨_,a,b⟩
theorem jC.cell{w:World}{b:Option Addr}{n cap:Nat}{os:Option (List (Option (List Int)))}(h:jC w (.slice b n cap) os)(k:Nat)(c:k<(os.getD []).length):∃g f u,b=some ⟨g,f,none⟩/\g<w.heap.size/\w.cell? ⟨g,f+k,none⟩=some u/\uF w u (os.getD [])[k]:=by
 cases os with
 |none=>simp at c
 |some l=>
  obtain⟨g,f,cap,a,e,d⟩:=h;simp only[Value.slice.injEq] at a;obtain⟨u,j,i⟩:=d k c;exact⟨g,f,u,a.1,e,j,i⟩
end
section
open Go.Proofs.Tryz
variable {lo:Nat}{l:List Int}{seen:List Bool}
def jE(n:Nat):List Int->List Bool->Bool
 |[],_=>true
 |x::r,seen=>if x<0∨(n:Int)<=x∨5<=x then false else if seen.getD x.toNat false then false else jE n r (seen.set x.toNat true)
def pA(l:List Int):Bool:=jE l.length l [false,false,false,false,false]
theorem OY{n k:Nat}(a:k<l.length)(h:l[k]<0∨(n:Int)<=l[k]∨5<=l[k]):jE n (l.drop k) seen=false:=by
 rw[xp a,jE,zc h]
theorem MF{n k:Nat}(a:k<l.length)(h:seen.getD l[k].toNat false=true):jE n (l.drop k) seen=false:=by
 rw[xp a,jE];split
 ·rfl
 ·simp
theorem Pp{n k:Nat}(b:k<l.length)(h:¬(l[k]<0∨(n:Int)<=l[k]∨5<=l[k]))(a:seen.getD l[k].toNat false=false):jE n (l.drop k) seen=jE n (l.drop (k+1)) (seen.set l[k].toNat true):=by
 rw[xp b,jE,za h,za (by rw[a];decide)]
theorem Of(w:World)(v:Value)(l:List Int)(h:uF w v (some l))(O:l.length<=2000000):
  Calls prog 155 #[v] w fun e I=>e=ε (.bool (pA l))/\μ w I:=by
 obtain⟨g,f,L,rfl,E,r⟩:=h;have B:=Q5 r;go_enter func155,ntmps155;go_wp2;go_loopw [8] (fun M wr=>∃(k:Nat) (seen:List Bool),k<=l.length/\M=ι k/\seen.length=5/\Q6 wr w.heap.size (seen.map Value.bool).toArray 282/\Hid (pA l=jE l.length (l.drop k) seen)/\μ w wr) (fun i _=>l.length-(intOf i).toNat)
 case atStart=>exact⟨0,[false,false,false,false,false],zv _,rfl,rfl,Q6.new _ _ _,rfl,(by go_grown)⟩
 case round=>
  obtain⟨k,seen,P,rfl,o,m,j,a⟩:=hrel;have A:=a.size;by_cases c:k<l.length
  ·have J:=(a.cell (p:=⟨g,f+k,none⟩) E).trans (B.out k c);have s:Hid ((l[k]<0∨(l.length:Int)<=l[k]∨5<=l[k])->jE l.length (l.drop k) seen=false):=fun h=>OY c h;have y:Hid (seen.getD l[k].toNat false=true->jE l.length (l.drop k) seen=false):=fun h=>MF c h;have u:=Q5 fun(h:¬(l[k]<0∨(l.length:Int)<=l[k]∨5<=l[k])) (D:seen.getD l[k].toNat false=false)=>Pp c h D;generalize l[k]=x at *;by_cases z:x<0
   ·go_wp2;go_ret;exact⟨by rw[j.out,s.out (zf z)];rfl,a⟩
   ·obtain⟨n,rfl⟩:=Int.eq_ofNat_of_zero_le (Int.not_lt.1 z);by_cases F:(l.length:Int)<=(n:Int)
    ·go_wp2;go_ret;exact⟨by rw[j.out,s.out (zb (zf F))];rfl,a⟩
    ·by_cases H:(5:Int)<=(n:Int)
     ·go_wp2;go_ret;exact⟨by rw[j.out,s.out (zb (zb H))];rfl,a⟩
     ·have q:n<5:=by omega
      obtain⟨t,Q⟩:=m.rules;have G:wr.cell? ⟨w.heap.size,n,none⟩=some (.bool (seen.getD n false)):=by
       rw[t];simp[o,q,List.getD_eq_getElem?_getD]
      have d:=m.set n (.bool true);have C:Hid (((seen.map Value.bool).toArray.setIfInBounds n (.bool true))=((seen.set n true).map Value.bool).toArray):=by simp[Hid,List.map_set]
      rw[C.out] at d;simp only[Int.toNat_natCast] at y u;clear t;generalize N:seen.getD n false=b at *;cases b with
      |true=>
       go_wp2;go_ret;exact⟨by rw[j.out,y.out (by trivial)];rfl,a⟩
      |false=>
       go_wp2;go_roundw
       case rel=>exact⟨k+1,seen.set n true,by omega,by go_num,by simpa using o,d,by rw[Hid,j.out,u.out (by omega) (by trivial)],a.setCell (by simp) _⟩
       case measure=>simp[intOf];omega
  ·have K:Hid (jE l.length (l.drop k) seen=true):=by rw[ue (by omega)];rfl
   go_wp2;go_ret;exact⟨by rw[j.out,K.out];rfl,a⟩
def vl(c:zd):Option (List Int)->Bool
 |none=>true
 |some l=>l.length == (zw c).length&&pA l
theorem G4(w:World)(c:zd)(C D z:Value)(o:Option (List Int))(hs:QD lo w C c.head.args)(G:Re lo w D c.body)(E:c.head.args.length+yU c.body<=1000)(u:c.body.length<=1000)(q:uF w z o)(y:(o.getD []).length<=2000000):
  Calls prog 112 #[.agg #[.bool c.head.neg,.string c.head.pred,C,D],z] w fun e H=>e=ε (.bool (vl c o))/\μ w H:=by
 have A:=Q5 fun W p=>wV W c _ _ (hs.below p) (G.below p) E u;cases o with
 |none=>
  have F:=q;subst F;have k:∀W:World,(binOp .eql 24 (ν) (ν)).run prog W=.ok (.bool true) W:=fun W=>by
   have:=run_equal_slice_nil W 24 3 none 0 0 underlying24;simp[binOp,this]
  go_enter func112,ntmps112;go_wp2;go_ret;exact⟨rfl,(by go_grown)⟩
 |some l=>
  have J:=Q5 fun W p=>Of W z l (q.below p) y;have B:Hid (vl c (some l)=(l.length == (zw c).length&&pA l)):=rfl;obtain⟨g,f,h,rfl,_,_⟩:=q;have k:∀W:World,(binOp .eql 24 (.slice (some ⟨g,f,none⟩) l.length h) (ν)).run prog W=.ok (.bool false) W:=fun W=>by
   have:=run_equal_slice_nil W 24 3 (some ⟨g,f,none⟩) l.length h underlying24;simp[binOp,this]
  generalize zw c=vs at *;by_cases n:l.length=vs.length
  ·have t:((l.length:Int) != (vs.length:Int))=false:=by rw[n];simp
   have v:=Q5 n;clear n;go_enter func112,ntmps112;go_wp2_with (first|(go_at_call 148;refine(A.out _ (by exact(by go_grown))).mono ?_;rintro e x ⟨K,rfl,a,j⟩;obtain⟨s,m,rfl⟩:=zp a;have b:μ w x:=(zQ (by go_grown) j (zg _));have d:=b.size)|(go_at_call 146;refine(es _ _ _ vs (by exact(Q6.new _ _ _).rules.1 0) (by exact zB a (by go_grown))).mono ?_;rintro e I ⟨rfl,i⟩;obtain rfl:=i.symm)|(go_at_call 155;refine(J.out _ (by exact(b.alloc d _))).mono ?_;rintro e L ⟨rfl,r⟩))
   go_ret;exact⟨by rw[B.out];simp[v.out],Q9 (b.alloc d _) r⟩
  ·have t:((l.length:Int) != (vs.length:Int))=true:=by rw[bne_iff_ne];omega
   go_enter func112,ntmps112;go_wp2_with (first|(go_at_call 148;refine(A.out _ (by exact(by go_grown))).mono ?_;rintro e x ⟨K,rfl,a,j⟩;obtain⟨s,m,rfl⟩:=zp a;have b:μ w x:=(zQ (by go_grown) j (zg _));have d:=b.size)|(go_at_call 146;refine(es _ _ _ vs (by exact(Q6.new _ _ _).rules.1 0) (by exact zB a (by go_grown))).mono ?_;rintro e I ⟨rfl,i⟩;obtain rfl:=i.symm))
   go_ret;exact⟨by rw[B.out];simp[n],b.alloc d _⟩
def vi(cs:List zd):Option (List (Option (List Int)))->Bool
 |none=>true
 |some l=>l.length == cs.length&&(cs.zip l).all fun x=>vl x.1 x.2
theorem Pd(cs:List zd)(l:List (Option (List Int)))(h:l.length=cs.length)(k:Nat)(a:k<cs.length):((cs.drop k).zip (l.drop k)).all (fun x=>vl x.1 x.2)=(vl cs[k] (l[k]'(by omega))&&((cs.drop (k+1)).zip (l.drop (k+1))).all fun x=>vl x.1 x.2):=by
 rw[xp a,xp (l:=l) (i:=k) (by omega),List.zip_cons_cons,List.all_cons]
theorem BQ(w:World)(cv ov:Value)(cs:List zd)(os:Option (List (Option (List Int))))(Z:Rh lo 171 w cv cs)(P:∀c∈cs,vR c)(hl:cs.length<=1000)(ho:jC w ov os)(ae:(os.getD []).length<=2000000)(A:∀o∈os.getD [],(o.getD []).length<=2000000):
  Calls prog 71 #[cv,ov] w fun e h=>e=ε (.bool (vi cs os))/\μ w h:=by
 obtain⟨aj,ag,rfl⟩:=Z.qx;cases os with
 |none=>
  have h0:ov=ν:=ho;subst h0;have s:∀W:World,(binOp .eql 26 (ν) (ν)).run prog W=.ok (.bool true) W:=fun W=>by
   have:=run_equal_slice_nil W 26 24 none 0 0 underlying26;simp[binOp,this]
  go_enter func71,ntmps71;go_wp2;go_ret;exact⟨rfl,(by go_grown)⟩
 |some l=>
  simp only[ur] at ae A;have HO:=Q5 ho;have af:=Q5 Z;have v:Hid (vi cs (some l)=(l.length == cs.length&&(cs.zip l).all fun x=>vl x.1 x.2)):=rfl;have ab:=Q5 A;have ad:=Q5 P;obtain⟨g,f,t,rfl,hg,_⟩:=ho;have s:∀W:World,(binOp .eql 26 (.slice (some ⟨g,f,none⟩) l.length t) (ν)).run prog W=.ok (.bool false) W:=fun W=>by
   have:=run_equal_slice_nil W 26 24 (some ⟨g,f,none⟩) l.length t underlying26;simp[binOp,this]
  clear Z A P;by_cases n:l.length=cs.length
  ·have K:((l.length:Int) != (cs.length:Int))=false:=by rw[n];simp
   have U:=Q5 n;have ak:l.length<=1000:=by omega
   have Y:Hid (vi cs (some l)=((cs.drop 0).zip (l.drop 0)).all fun x=>vl x.1 x.2):=by rw[Hid,v.out];simp[n]
   clear n v;go_enter func71,ntmps71;go_wp2;clear K s;go_loopw [16] (fun aa wr=>∃k:Nat,k<=cs.length/\aa=ι k/\Hid (vi cs (some l)=((cs.drop k).zip (l.drop k)).all fun x=>vl x.1 x.2)/\μ w wr) (fun i _=>cs.length-(intOf i).toNat)
   case atStart=>exact⟨0,zv _,rfl,Y,(by go_grown)⟩
   case round=>
    clear Y;obtain⟨k,hk,rfl,v,a⟩:=hrel;have ah:=a.size;by_cases r:k<cs.length
    ·have J:k<l.length:=by rw[U.out];exact r
     obtain⟨g0,B,m,z,j,rfl,q,F,V,O,X,C,N⟩:=af.out.cell k r;obtain⟨S,I⟩:=ad.out cs[k] (zs r);obtain⟨_,_,u,H,_,hu,M⟩:=HO.out.cell k J;simp only[zt,Addr.mk.injEq,and_true] at H;obtain⟨rfl,rfl⟩:=H;have E:=ab.out l[k] (zs J);have R:=Q5 fun W hW=>G4 W cs[k] _ _ u l[k] (C.below hW) (N.below hW) S I (M.below hW) E;have D:Hid (((cs.drop k).zip (l.drop k)).all (fun x=>vl x.1 x.2)=(vl cs[k] l[k]&&((cs.drop (k+1)).zip (l.drop (k+1))).all fun x=>vl x.1 x.2)):=Pd cs l U.out k r;have e0:=zl a q F;have e1:=zl a q V;have e2:=zl a q O;have e3:=zl a q X;have eu:=zl a hg hu;have ai:g0<wr.heap.size:=by omega
     have Q:g<wr.heap.size:=by omega
     clear F V O X hu M C N S I E;generalize cs[k]=c at *;generalize vl c l[k]=b at *;have G:=Q6.new wr #[.bool c.head.neg,.string c.head.pred,.slice B c.head.args.length m,.slice z c.body.length j] 171;cases b with
     |true=>
      go_wp2;go_region_held3 (fun h=>h.cell? ⟨wr.heap.size,0,none⟩=some (.bool c.head.neg)/\h.cell? ⟨wr.heap.size,1,none⟩=some (.string c.head.pred)/\h.cell? ⟨wr.heap.size,2,none⟩=some (.slice B c.head.args.length m)/\h.cell? ⟨wr.heap.size,3,none⟩=some (.slice z c.body.length j)/\h.cell? ⟨g,f+k,none⟩=some u) (first|go_keep|(go_split_ands;refine⟨?_,?_,?_,?_,?_⟩<;>go_keep)) (go_at_call 112;refine(R.out _ (by exact(zQ a (by go_grown) (zg _)))).mono ?_;rintro e w4 ⟨rfl,d⟩;have p:μ wr w4:=(zQ (by go_grown) d (zg _));have y:=G.below (by first|exact d|exact(zJ (zo _ _) _).trans d);obtain⟨T,L⟩:=y.rules;have ac:=(zl p Q eu))
      go_wp2;go_roundw
      case rel=>exact⟨k+1,by omega,by go_num,by rw[Hid,v.out,D.out];simp,Q9 a p⟩
      case measure=>simp[intOf];omega
     |false=>
      go_wp2;go_region_held3 (fun h=>h.cell? ⟨wr.heap.size,0,none⟩=some (.bool c.head.neg)/\h.cell? ⟨wr.heap.size,1,none⟩=some (.string c.head.pred)/\h.cell? ⟨wr.heap.size,2,none⟩=some (.slice B c.head.args.length m)/\h.cell? ⟨wr.heap.size,3,none⟩=some (.slice z c.body.length j)/\h.cell? ⟨g,f+k,none⟩=some u) (first|go_keep|(go_split_ands;refine⟨?_,?_,?_,?_,?_⟩<;>go_keep)) (go_at_call 112;refine(R.out _ (by exact(zQ a (by go_grown) (zg _)))).mono ?_;rintro e w4 ⟨rfl,d⟩;have p:μ wr w4:=(zQ (by go_grown) d (zg _));have y:=G.below (by first|exact d|exact(zJ (zo _ _) _).trans d);obtain⟨T,L⟩:=y.rules;have ac:=(zl p Q eu))
      go_wp2;go_ret;exact⟨by rw[v.out,D.out];rfl,Q9 a p⟩
    ·have HZ:Hid (vi cs (some l)=true):=by rw[Hid,v.out,ue (by omega)];rfl
     go_wp2;go_ret;exact⟨by rw[HZ.out];rfl,a⟩
  ·have K:((l.length:Int) != (cs.length:Int))=true:=by rw[bne_iff_ne];omega
   have Y:Hid (vi cs (some l)=false):=by rw[Hid,v.out];simp[n]
   go_enter func71,ntmps71;go_wp2;go_ret;exact⟨by rw[Y.out];rfl,(by go_grown)⟩
end
end Go.Proofs.YteampbddflhngaaGreat
