import Derived.Test.YteampbddflhngaaGreatZ09
namespace Go.Proofs.YteampbddflhngaaGreat
set_option linter.all false
set_option maxRecDepth 100000
set_option maxHeartbeats 4000000
open Go.RowKit
section
open Go.Proofs.Tryz
variable {lo:Nat}
def jE(lo:Nat)(w:World)(a:Nat)(v:Value)(ns:κ):Prop:=lo<=a/\Q8 w a #[v] 141/\QF lo w v ns
theorem jE.tab{w:World}{a:Nat}{v:Value}{ns:κ}(h:jE lo w a v ns):lD lo w a ns:=⟨h.1,v,h.2.1,h.2.2⟩
theorem jE.below{w w':World}{b:Nat}{v:Value}{ns:κ}(h:jE lo w b v ns)(a:μ w w'):jE lo w' b v ns:=⟨h.1,h.2.1.below a,h.2.2.below a⟩
def mh(ns:κ)(x:ByteArray):κ:=if uN ns x<ns.length/\ns.getD (uN ns x) ByteArray.empty=x then ns else ns.take (uN ns x)++x::ns.drop (uN ns x)
def eM(lo:Nat)(w:World)(b:Nat)(v:Value)(ns:κ)(e:Ending)(w':World):Prop:=e=ε (.tuple #[])/\∃a,jE lo w' b a ns/\ze (b::v.ownBlock.toList) w w'/\(a.ownBlock=v.ownBlock∨∃g,a.ownBlock=some g/\w.heap.size<=g)
theorem Kz(ns:κ)(x:ByteArray)(k:Nat)(a:k<ns.length):(((ns.take (k+1)++x::ns.drop (k+1)).set (k+1) ns[k]).set k x)=ns.take k++x::ns.drop k:=by
 have b:(ns.take k).length=k:=by simp;omega
 rw[yL a,xn a,ky,fM _ _ (by omega),b,show k+1-k=1 from by omega,fM _ _ (by omega),b,kf];rfl
theorem L7(w:World)(n:Nat)(v:Value)(ns:κ)(x:ByteArray)(h:jE lo w n v ns)(hl:ns.length<=900):
  Calls prog 157 #[(π n),.string x] w fun e w'=>eM lo w n v (mh ns x) e w':=by
 have HP:=Q7 (AO w n ns x h.tab (by omega));have HH:=Q7 h;obtain⟨ac,Q,hs⟩:=h;obtain⟨W,l,rfl⟩:=hs.qx;have HE:Hid (mh ns x=if uN ns x<ns.length/\ns.getD (uN ns x) ByteArray.empty=x then ns else ns.take (uN ns x)++x::ns.drop (uN ns x)):=rfl;generalize uN ns x=f at *;by_cases P:f<ns.length/\ns.getD f ByteArray.empty=x
 ·rw[zc P] at HE;obtain⟨R,h2⟩:=P;rw[show ns.getD f ByteArray.empty=ns[f] from by simp[List.getD_eq_getElem?_getD,R]] at h2;obtain⟨g,rfl,T,C⟩:=hs.cell f R;have al:=gE h2;clear h2;generalize ns[f]=y at *;go_enter func157,ntmps157;go_wp2_with (go_at_call 168;refine HP.out.mono ?_;rintro r w' ⟨rfl,m,rfl⟩;have d:=Q.below (zJ (zo _ _) m);obtain⟨hc,hf,F⟩:=d.boxed;have hx:=((zJ (zo w.heap.size w) m).cell (p:=⟨g,f,none⟩) T).trans C;have ay:g<(w.drewN m).heap.size:=T)
  (try simp only[Exit.inBlock,Exit.then]);refine zK (results_none rfl _ _ _) rfl ?_
  exact⟨rfl,_,by rw[HE.out];exact HH.out.below (zJ (zo _ _) m),ze.of (zJ (zo _ _) m),zf rfl⟩
 ·rw[za P] at HE;obtain⟨i0,hi,ab,ag,ai⟩:=info_parts Q0;have ah:Hid (∀m,f<ns.length->∃(y:ByteArray) (g:Nat),W=some ⟨g,0,none⟩/\g<(w.drewN m).heap.size/\(w.drewN m).cell? ⟨g,f,none⟩=some (.string y)/\(y.toList == x.toList)=false):=fun m R=>by
   obtain⟨g,e,T,C⟩:=hs.cell f R;have hn:ns[f]≠x:=fun q=>P ⟨R,by rw[←q];simp[List.getD_eq_getElem?_getD,R]⟩;exact⟨ns[f],g,e,T,((zJ (zo w.heap.size w) m).cell (p:=⟨g,f,none⟩) T).trans C,j5 hn⟩
  have au:lo<=w.heap.size:=by have:=Q.lt;omega
  by_cases R:f<ns.length
  ·obtain⟨yy,gg,e1,_⟩:=ah.out 0 R;subst e1;go_enter func157,ntmps157;go_wp2_with (first|(go_at_call 168;refine HP.out.mono ?_;rintro r w' ⟨rfl,m,rfl⟩;have s:μ w (w.drewN m):=(zJ (zo _ _) m);have d:=Q.below s;obtain⟨hc,hf,F⟩:=d.boxed;have K:=hs.below s;obtain⟨y,g,e1,T,hx,al⟩:=ah.out m R;simp only[zt,Addr.mk.injEq] at e1;obtain⟨rfl,_⟩:=e1)|(at_builtin;refine kH (w.drewN m) _ [.string x] _ rfl (.tmp 31) (.tmp 33) 30 rfl lo 9 i0 _ 1 16 underlying30 hi ab ag ai rfl (by decide) (.slice (some ⟨gg,0,none⟩) ns.length l) ns.length (ns.map Value.string) rfl K (zo _ _) _ _ rfl (by simp) rfl (by simp[Value.oneCell']) (by omega) (by omega) (by omega) ?_;intro v' S t A o;obtain⟨ap,a,rfl⟩:=zp t;have c:=d.save A (qv K d (by decide));obtain⟨V,Y,N⟩:=c.boxed))
   obtain⟨b,ae,I,aa,an,_⟩:=yx t (by omega);simp only[Value.slice.injEq] at I;obtain⟨rfl,_,G⟩:=I;clear G;have L:b≠n:=uB t c (by decide) rfl;have u:=c.set 0 (.slice (some ⟨b,0,none⟩) (ns.length+1) a);simp at u;have U:QF lo (S.setCell ⟨n,0,none⟩ (.slice (some ⟨b,0,none⟩) (ns.length+1) a)) (.slice (some ⟨b,0,none⟩) (ns.length+1) a) (ns.take ns.length++x::ns.drop ns.length):=by
    have q:=xO t ((QJ.refl n S).setCell 0 (.slice (some ⟨b,0,none⟩) (ns.length+1) a)) c (by decide);unfold QF;simpa using q
   have O:∀y∈[b],y∈n::(Value.slice (some ⟨gg,0,none⟩) ns.length l).ownBlock.toList∨w.heap.size<=y:=fun y B=>by
    simp only[xG] at B;subst B;rcases o with q|⟨g,q,T⟩
    ·left;simp only[zx];right;rw[←q];simp[Value.ownBlock]
    ·right;simp only[Value.ownBlock,zt] at q;have:=s.size;omega
   have H:ze (n::(Value.slice (some ⟨gg,0,none⟩) ns.length l).ownBlock.toList) w (S.setCell ⟨n,0,none⟩ (.slice (some ⟨b,0,none⟩) (ns.length+1) a)):=((ze.of (M:=n::(Value.slice (some ⟨gg,0,none⟩) ns.length l).ownBlock.toList) s).newer A (fun y B=>zf (pE _ B))).newer (ze.set _ _ _ _) (fun y B=>zf (by simp at B;simp[B]));have J:(Value.slice (some ⟨b,0,none⟩) (ns.length+1) a).ownBlock=(Value.slice (some ⟨gg,0,none⟩) ns.length l).ownBlock∨∃g,(Value.slice (some ⟨b,0,none⟩) (ns.length+1) a).ownBlock=some g/\w.heap.size<=g:=o.imp id (fun⟨g,q1,q2⟩=>⟨g,q1,by have:=s.size;omega⟩);clear hc hf F V Y N A o t;generalize S.setCell ⟨n,0,none⟩ (.slice (some ⟨b,0,none⟩) (ns.length+1) a)=w5 at *;generalize decide (f<ns.length)=bq;go_loopw [5] (fun v5 wr=>∃k:Nat,v5=ι k/\k<=ns.length/\(f<=k∨k=ns.length)/\Q8 wr n #[.slice (some ⟨b,0,none⟩) (ns.length+1) a] 141/\QF lo wr (.slice (some ⟨b,0,none⟩) (ns.length+1) a) (ns.take k++x::ns.drop k)/\ze (n::(Value.slice (some ⟨gg,0,none⟩) ns.length l).ownBlock.toList) w wr) (fun i _=>(intOf i).toNat)
   case atStart=>exact⟨ns.length,by go_num,zg _,zb rfl,u,U,H⟩
   case round=>
    obtain⟨k,rfl,hk,am,E,z,D⟩:=hrel;obtain⟨hc,hf,F⟩:=E.boxed;by_cases aj:f<k
    ·obtain⟨j,rfl⟩:∃j,k=j+1:=⟨k-1,by omega⟩;have hj:j<ns.length:=by omega
     have ad:(ns.take (j+1)++x::ns.drop (j+1)).length=ns.length+1:=by simp;omega
     have ar:b<wr.heap.size:=xI z rfl;have ax:=qO z;obtain⟨_,e0,_,ao⟩:=z.cell j (by omega);obtain⟨_,e1,_,aw⟩:=z.cell (j+1) (by omega);simp only[zt,Addr.mk.injEq] at e0 e1;obtain⟨rfl,_⟩:=e0;obtain⟨rfl,_⟩:=e1;have ej:(ns.take (j+1)++x::ns.drop (j+1))[j]'(by omega)=ns[j]:=by
      rw[vu (by simp;omega)];simp
     rw[ej] at ao;have q1:=uW z (j+1) (by simp;omega) (.string ns[j]);have q2:=uW q1 j (by simp;omega) (.string x);have el:(((ns.take (j+1)++x::ns.drop (j+1)).map Value.string).set (j+1) (.string ns[j])).set j (.string x)=(ns.take j++x::ns.drop j).map Value.string:=by
      rw[←fu,←fu,Kz ns x j hj]
     rw[el] at q2;have X:(ns.take j++x::ns.drop j).length=ns.length+1:=by simp;omega
     have aq:QF lo ((wr.setCell ⟨b,j+1,none⟩ (.string ns[j])).setCell ⟨b,j,none⟩ (.string x)) (.slice (some ⟨b,0,none⟩) (ns.length+1) a) (ns.take j++x::ns.drop j):=by
      unfold QF;rw[X];rw[ad] at q2;exact q2
     have ak:=(E.set_ne (Ne.symm L) (j+1) (.string ns[j])).set_ne (Ne.symm L) j (.string x);have af:=(D.newer (ze.set wr b (j+1) (.string ns[j])) O).newer (ze.set _ b j (.string x)) O;generalize (ns.take (j+1)++x::ns.drop (j+1))[j+1]'(by omega)=zz at *;clear ej q1 q2 el;generalize ns[j]=yj at *;have av:(j:Int)<(ns.length:Int):=by omega
     go_wp2;go_region
     all_goals
      go_wp2;go_roundw
      case rel=>exact⟨j,by go_num,by omega,zf (by omega),ak.below (zo _ _).drew,aq.below (zo _ _).drew,af.newer (ze.of (M:=[]) (zo _ _).drew) (by simp)⟩
      case measure=>simp[intOf]
    ·have Z:Hid (ns.take k++x::ns.drop k=ns.take f++x::ns.drop f):=by
      rw[Hid];by_cases e:k=f
      ·rw[e]
      ·obtain rfl:k=ns.length:=by omega
       rw[xg (zg _),sO (zg _),xg (by omega),sO (by omega)]
     go_wp2;go_end0
     exact⟨rfl,_,by rw[HE.out,←Z.out];exact⟨ac,E,z⟩,D,J⟩
  ·have az:ns.length<=f:=by omega
   go_enter func157,ntmps157;go_wp2_with (first|(go_at_call 168;refine HP.out.mono ?_;rintro r w' ⟨rfl,m,rfl⟩;have s:μ w (w.drewN m):=(zJ (zo _ _) m);have d:=Q.below s;obtain⟨hc,hf,F⟩:=d.boxed;have K:=hs.below s)|(at_builtin;refine kH (w.drewN m) _ [.string x] _ rfl (.tmp 31) (.tmp 33) 30 rfl lo 9 i0 _ 1 16 underlying30 hi ab ag ai rfl (by decide) (.slice W ns.length l) ns.length (ns.map Value.string) rfl K (zo _ _) _ _ rfl (by simp) rfl (by simp[Value.oneCell']) (by omega) (by omega) (by omega) ?_;intro v' S t A o;obtain⟨ap,a,rfl⟩:=zp t;have c:=d.save A (qv K d (by decide));obtain⟨V,Y,N⟩:=c.boxed))
   obtain⟨b,ae,I,aa,an,_⟩:=yx t (by omega);simp only[Value.slice.injEq] at I;obtain⟨rfl,_,G⟩:=I;clear G;have L:b≠n:=uB t c (by decide) rfl;have u:=c.set 0 (.slice (some ⟨b,0,none⟩) (ns.length+1) a);simp at u;have U:QF lo (S.setCell ⟨n,0,none⟩ (.slice (some ⟨b,0,none⟩) (ns.length+1) a)) (.slice (some ⟨b,0,none⟩) (ns.length+1) a) (ns.take ns.length++x::ns.drop ns.length):=by
    have q:=xO t ((QJ.refl n S).setCell 0 (.slice (some ⟨b,0,none⟩) (ns.length+1) a)) c (by decide);unfold QF;simpa using q
   have O:∀y∈[b],y∈n::(Value.slice W ns.length l).ownBlock.toList∨w.heap.size<=y:=fun y B=>by
    simp only[xG] at B;subst B;rcases o with q|⟨g,q,T⟩
    ·left;simp only[zx];right;rw[←q];simp[Value.ownBlock]
    ·right;simp only[Value.ownBlock,zt] at q;have:=s.size;omega
   have H:ze (n::(Value.slice W ns.length l).ownBlock.toList) w (S.setCell ⟨n,0,none⟩ (.slice (some ⟨b,0,none⟩) (ns.length+1) a)):=((ze.of (M:=n::(Value.slice W ns.length l).ownBlock.toList) s).newer A (fun y B=>zf (pE _ B))).newer (ze.set _ _ _ _) (fun y B=>zf (by simp at B;simp[B]));have J:(Value.slice (some ⟨b,0,none⟩) (ns.length+1) a).ownBlock=(Value.slice W ns.length l).ownBlock∨∃g,(Value.slice (some ⟨b,0,none⟩) (ns.length+1) a).ownBlock=some g/\w.heap.size<=g:=o.imp id (fun⟨g,q1,q2⟩=>⟨g,q1,by have:=s.size;omega⟩);clear hc hf F V Y N A o t;generalize S.setCell ⟨n,0,none⟩ (.slice (some ⟨b,0,none⟩) (ns.length+1) a)=w5 at *;generalize decide (f<ns.length)=bq;go_loopw [5] (fun v5 wr=>∃k:Nat,v5=ι k/\k<=ns.length/\(f<=k∨k=ns.length)/\Q8 wr n #[.slice (some ⟨b,0,none⟩) (ns.length+1) a] 141/\QF lo wr (.slice (some ⟨b,0,none⟩) (ns.length+1) a) (ns.take k++x::ns.drop k)/\ze (n::(Value.slice W ns.length l).ownBlock.toList) w wr) (fun i _=>(intOf i).toNat)
   case atStart=>exact⟨ns.length,by go_num,zg _,zb rfl,u,U,H⟩
   case round=>
    obtain⟨k,rfl,hk,am,E,z,D⟩:=hrel;obtain⟨hc,hf,F⟩:=E.boxed;by_cases aj:f<k
    ·exact zC aj (by omega)
    ·have Z:Hid (ns.take k++x::ns.drop k=ns.take f++x::ns.drop f):=by
      rw[Hid];by_cases e:k=f
      ·rw[e]
      ·obtain rfl:k=ns.length:=by omega
       rw[xg (zg _),sO (zg _),xg (by omega),sO (by omega)]
     go_wp2;go_end0
     exact⟨rfl,_,by rw[HE.out,←Z.out];exact⟨ac,E,z⟩,D,J⟩
end
section
open Go.Proofs.Tryz
variable {lo:Nat}{cb:Nat}
def qH(ns:κ)(t:ByteArray):κ:=if zP t then ns else mh ns t
def uG(ns:κ)(l:zj):κ:=l.args.foldl qH ns
def qs(ns:κ)(c:zd):κ:=c.body.foldl uG (uG ns c.head)
def zq(cs:List zd):κ:=cs.foldl qs []
theorem Im(ns:κ)(t:ByteArray):(qH ns t).length<=ns.length+1:=by
 unfold qH;split
 ·omega
 ·unfold mh;split
  ·omega
  ·simp only[yq,xi,qC,List.length_drop];omega
theorem tM(ts:κ):∀a:κ,(ts.foldl qH a).length<=a.length+ts.length:=by
 induction ts with
 |nil=>intro a;simp
 |cons t ts b=>intro a;have:=b (qH a t);have:=Im a t;simp only[ut,xi];omega
def kt(l:zj):Nat:=l.args.length
def gi(a:List zj):Nat:=(a.map kt).sum
def lg(cs:List zd):Nat:=(cs.map fun c=>kt c.head+gi c.body).sum
theorem Dn(b:List zj):∀a:κ,(b.foldl uG a).length<=a.length+gi b:=by
 induction b with
 |nil=>intro a;simp[gi]
 |cons l b c=>intro a;have:=c (uG a l);have:=tM l.args a;simp only[ut,gi,xH,vT,kt] at *;unfold uG at *;omega
theorem EC(cs:List zd):∀a:κ,(cs.foldl qs a).length<=a.length+lg cs:=by
 induction cs with
 |nil=>intro a;simp[lg]
 |cons c cs b=>intro a;have:=b (qs a c);have:=Dn c.body (uG a c.head);have:=tM c.head.args a;simp only[ut,lg,xH,vT] at *;unfold qs kt at *;unfold uG at *;omega
theorem ML(a:List zj)(k:Nat)(b:k<a.length):gi (a.take k)+kt a[k]<=gi a:=by
 have e:a=a.take k++a[k]::a.drop (k+1):=by rw[←xn b,jt]
 conv=>rhs;rw[e]
 simp only[gi,uP,xH,List.sum_append,vT];omega
theorem JB(cs:List zd)(k:Nat)(a:k<cs.length):lg (cs.take k)+(kt cs[k].head+gi cs[k].body)<=lg cs:=by
 have e:cs=cs.take k++cs[k]::cs.drop (k+1):=by rw[←xn a,jt]
 conv=>rhs;rw[e]
 simp only[lg,uP,xH,List.sum_append,vT];omega
def lx(cb:Nat)(w w':World):Prop:=∀b c t,b≠cb->9≠t->Q8 w b c t->Q8 w' b c t
theorem lx.of{w w':World}(h:μ w w'):lx cb w w':=fun _ _ _ _ _ q=>q.below h
theorem lx.trans{a b c:World}(h:lx cb a b)(k:lx cb b c):lx cb a c:=fun _ _ _ n m q=>k _ _ _ n m (h _ _ _ n m q)
theorem eM.next{B:Nat}{j w w':World}{v:Value}{ns a:κ}{e:Ending}(d:jE B w cb v ns)(n:Below B j w)(h:eM B w cb v a e w'):e=ε (.tuple #[])/\∃i,jE B w' cb i a/\Below B j w'/\lx cb w w':=by
 obtain⟨rfl,i,l,k,p⟩:=h;refine⟨rfl,i,l,n.trans (k.below (fun x g=>?_) ?_),fun b c t o m q=>q.save k fun f=>?_⟩
 ·simp only[zx] at g;rcases g with rfl|g
  ·exact d.1
  ·exact yV d.2.2 (yr g)
 ·have:=d.1;have:=d.2.1.lt;omega
 ·simp only[zx] at f;rcases f with rfl|f
  ·exact o rfl
  ·exact uB d.2.2 q m (yr f) rfl
theorem K7(d w:World)(cb:Nat)(v:Value)(ns:κ)(l:zj)(I:Value)(hs:QF lo d I l.args)(J:μ d w)(h:jE d.heap.size w cb v ns)(K:ns.length+kt l<=900):
  Calls prog 113 #[(π cb),.agg #[.bool l.neg,.string l.pred,I]] w fun e j=>e=ε (.tuple #[])/\∃o,jE d.heap.size j cb o (uG ns l)/\μ d j/\lx cb w j:=by
 obtain⟨ao,T,rfl⟩:=hs.qx;have O:=Q7 fun(W:World) (v:Value) (ns:κ) (x:ByteArray) (a:jE d.heap.size W cb v ns) (b:ns.length<=900)=>L7 W cb v ns x a b;have U:Hid (uG ns l=l.args.foldl qH ns):=rfl;have X:=Q7 h;have P:=J.size;have Q:l.args.length<=900:=by unfold kt at K;omega
 have u:Hid (∀k,k<l.args.length->((l.args.take k).foldl qH ns).length<=900):=fun k R=>by
  have:=tM (l.args.take k) ns;simp only[qC] at this;unfold kt at K;omega
 generalize l.args=f at *;go_enter func113,ntmps113;go_wp2;go_loopw [9] (fun V wr=>∃(k:Nat) (o:Value),k<=f.length/\V=ι k/\Hid (jE d.heap.size wr cb o ((f.take k).foldl qH ns))/\μ d wr/\Hid (lx cb w wr)) (fun i _=>f.length-(intOf i).toNat)
 case atStart=>exact⟨0,v,zv _,rfl,X.out.below (by go_grown),J.alloc P _,lx.of (by go_grown)⟩
 case round=>
  obtain⟨k,o,R,rfl,q,c,H⟩:=hrel;have M:=c.size;by_cases p:k<f.length
  ·obtain⟨g,rfl,S,m⟩:=hs.cell k p;have Y:=zl c S m;have L:Hid ((f.take (k+1)).foldl qH ns=qH ((f.take k).foldl qH ns) f[k]):=by rw[Hid,yL p,j8];rfl
   have r:=u.out k p;have A:Hid (∀a x,qH a x=if zP x then a else mh a x):=fun _ _=>rfl;generalize (f.take k).foldl qH ns=s at *;generalize f[k]=x at *;cases B:zP x with
   |true=>
    have C:Hid (∀W,Calls prog 156 #[.string x] W fun e j=>e=ε (.bool true)/\j=W):=fun W=>by rw[←B];exact fU x W
    have F:Hid (qH s x=s):=by rw[Hid,A.out,B];rfl
    go_wp2_with (go_at_call 156;refine(C.out _).mono ?_;rintro e j ⟨rfl,n⟩;obtain rfl:=n.symm)
    go_roundw
    ·exact⟨k+1,o,by omega,by go_num,by rw[L.out,F.out];exact q.out,c,H⟩
    ·simp[intOf];omega
   |false=>
    have C:Hid (∀W,Calls prog 156 #[.string x] W fun e j=>e=ε (.bool false)/\j=W):=fun W=>by rw[←B];exact fU x W
    have F:Hid (qH s x=mh s x):=by rw[Hid,A.out,B];rfl
    go_wp2_with (first|(go_at_call 156;refine(C.out _).mono ?_;rintro e j ⟨rfl,n⟩;obtain rfl:=n.symm)|(go_at_call 157;refine(O.out wr o s x q.out r).mono ?_;intro e Z t;obtain⟨rfl,N,z,D,y⟩:=t.next q.out c;have G:=Q7 (H.out.trans y);clear y;have E:=Q7 z;clear t z))
    go_roundw
    ·exact⟨k+1,N,by omega,by go_num,by rw[L.out,F.out];exact E.out,D,G⟩
    ·simp[intOf];omega
  ·rw[xg (by omega)] at q;go_wp2;go_end0
   exact⟨rfl,o,by rw[U.out];exact q.out,c,H.out⟩
def C8(cs:List zd):Prop:=lg cs<=900/\cs.length<=1000/\∀c∈cs,c.body.length<=1000
theorem LA(w:World)(v:Value)(cs:List zd)(h:Rl lo 171 w v cs)(hf:C8 cs):
  Calls prog 72 #[v] w fun e w'=>∃t,e=ε (.agg #[t])/\QF w.heap.size w' t (zq cs)/\μ w w':=by
 obtain⟨ao,aK,rfl⟩:=h.qx;obtain⟨aF,aA,ar⟩:=hf;have HA:=Q7 fun(W:World) (v:Value) (ns:κ) (l:zj) (va:Value) (a:QF lo w va l.args) (b:μ w W) (c:jE w.heap.size W (w.heap.size+1) v ns) (d:ns.length+kt l<=900)=>K7 w W _ v ns l va a b c d;have HE:Hid (zq cs=cs.foldl qs []):=rfl;have HH:=Q7 h;have P:Hid (∀k (hk:k<cs.length),((cs.take k).foldl qs []).length+kt cs[k].head+gi cs[k].body<=900):=fun k hk=>by
  have:=EC (cs.take k) [];have:=JB cs k hk;simp only[dK] at *;omega
 have az:=(Q8.new w #[ν] 141).below ((zo _ _).alloc (zg _) (.cells #[ν] 141));have U:=Q8.new (w.alloc (.cells #[ν] 141)) #[ν] 141;have a2:μ w ((w.alloc (.cells #[ν] 141)).alloc (.cells #[ν] 141)):=(by go_grown);simp only[World.size_alloc] at U;go_enter func72,ntmps72;go_wp2;generalize ((w.alloc (.cells #[ν] 141)).alloc (.cells #[ν] 141))=wA at *;go_loopw [10] (fun ae wr=>∃(k:Nat) (t:Value),k<=cs.length/\ae=ι k/\Hid (jE w.heap.size wr (w.heap.size+1) t ((cs.take k).foldl qs []))/\Q8 wr w.heap.size #[ν] 141/\μ w wr) (fun i _=>cs.length-(intOf i).toNat)
 case atStart=>exact⟨0,_,zv _,rfl,⟨by omega,U,QF.nil _⟩,az,a2⟩
 case round=>
  obtain⟨k,t,hk,rfl,F,o,m⟩:=hrel;have a8:=m.size;by_cases q:k<cs.length
  ·obtain⟨g,ak,J,ax,R,C,V,q0,q1,q2,q3,a3,O⟩:=HH.out.cell k q;subst C;have av:=zl m V q0;have ah:=zl m V q1;have aw:=zl m V q2;have am:=zl m V q3;have a9:g<wr.heap.size:=by omega
   have HS:Hid ((cs.take (k+1)).foldl qs []=qs ((cs.take k).foldl qs []) cs[k]):=by rw[Hid,yL q,j8];rfl
   have I:=P.out k q;have ap:=ar _ (zs q);have an:Hid (∀a c,qs a c=c.body.foldl uG (uG a c.head)):=fun _ _=>rfl;clear q0 q1 q2 q3;generalize (cs.take k).foldl qs []=X at *;generalize cs[k]=c at *;have ad:=Q7 fun W a b=>HA.out W t X c.head _ a3 b a (by omega);have T:=(Q8.new wr #[.bool c.head.neg,.string c.head.pred,.slice ak c.head.args.length J,.slice ax c.body.length R] 171);go_upto_region 6 with (first|(go_at_call 113;refine(ad.out _ (F.out.below (by go_grown)) (zQ m (by go_grown) (zg _))).mono ?_;rintro e w2 ⟨rfl,v2,Q,G,y⟩))
   have a7:=F.out.2.1.lt;have K:=y _ _ _ (by omega) (by decide) T;have E:=y _ _ _ (by omega) (by decide) (o.below zT);obtain⟨aa,au,al⟩:=K.boxed;have aE:=G.size;have S:=Q7 Q;have D:Hid ((uG X c.head).length+gi c.body<=900):=by
    have:=tM c.head.args X;unfold kt at I;unfold Hid uG;omega
   clear y T Q av ah aw am;go_wp2;clear aa au al;obtain⟨f,x⟩:∃f,f=c.body:=⟨_,rfl⟩;have ac:=Q7 x;rw[←x] at O ap D ⊢;clear x;obtain⟨r,z⟩:∃r,r=uG X c.head:=⟨_,rfl⟩;have ab:=Q7 z;rw[←z] at S D;clear z;go_loopw [20] (fun Y wr=>∃(j:Nat) (t:Value),j<=f.length/\Y=ι j/\Hid (jE w.heap.size wr (w.heap.size+1) t ((f.take j).foldl uG r))/\Q8 wr w.heap.size #[ν] 141/\μ w wr) (fun i _=>f.length-(intOf i).toNat)
   case atStart=>exact⟨0,_,zv _,rfl,S,E,G⟩
   case round=>
    obtain⟨j,v3,hj,rfl,A,s,n⟩:=hrel;have a6:=n.size;by_cases p:j<f.length
    ·obtain⟨gl,aM,a5,C,u,p0,p1,p2,a0⟩:=O.cell j p;subst C;have aG:=zl n u p0;have aD:=zl n u p1;have aN:=zl n u p2;have a4:gl<wr.heap.size:=by omega
     have af:Hid ((f.take (j+1)).foldl uG r=uG ((f.take j).foldl uG r) f[j]):=by rw[Hid,yL p,j8];rfl
     have B:((f.take j).foldl uG r).length+kt f[j]<=900:=by
      have:=Dn (f.take j) r;have:=ML f j p;have:=D.out;omega
     clear p0 p1 p2;generalize (f.take j).foldl uG r=nj at *;generalize f[j]=l at *;have aj:=Q7 fun W a b=>HA.out W v3 nj l _ a0 b a B;go_wp2_with (go_at_call 113;refine(aj.out _ (A.out.below (by go_grown)) (zQ n (by go_grown) (zg _))).mono ?_;rintro e w4 ⟨rfl,v4,L,ag,M⟩;have ai:=Q7 L;have H:=M _ _ _ (by omega) (by decide) (s.below zT);clear L M)
     go_roundw
     ·exact⟨j+1,v4,by omega,by go_num,by rw[af.out];exact ai.out,H,ag⟩
     ·simp[intOf];omega
    ·rw[xg (by omega),ac.out] at A;have HQ:Hid (jE w.heap.size wr (w.heap.size+1) v3 ((cs.take (k+1)).foldl qs [])):=by rw[Hid,HS.out,an.out,←ab.out];exact A.out
     go_wp2;go_roundw
     ·exact⟨k+1,v3,by omega,by go_num,HQ,s,n⟩
     ·simp[intOf];omega
  ·rw[xg (by omega)] at F;obtain⟨aq,N,rfl⟩:=F.out.2.2.qx;obtain⟨aC,Z,ay⟩:=F.out;obtain⟨aL,aI,aJ⟩:=Z.boxed;obtain⟨a1,aH,aB⟩:=o.boxed;go_wp2
   (try simp only[Exit.inBlock,Exit.then])
   exact zK (v:=.agg #[.slice aq (cs.foldl qs []).length N]) (by simp[results,results72,go_sem,a1]) rfl ⟨_,rfl,by rw[HE.out];exact(ay.but ((QJ.refl w.heap.size wr).setCell 0 _) o (by decide)),m.setCell (by simp) _⟩
end
section
open Go.Proofs.Tryz
variable {lo:Nat}
def TG(B:Nat)(w:World)(tb o:Nat)(t:List zh):Prop:=∃a,tb<w.heap.size/\w.cell? ⟨tb,o,none⟩=some a/\w.ownsRow B 221 3 a t.length (xZ t)
theorem TG.below{B:Nat}{w w':World}{tb o:Nat}{t:List zh}(h:TG B w tb o t)(a:μ w w'):TG B w' tb o t:=by
 obtain⟨c,b,e,d⟩:=h;exact⟨c,by have:=a.size;omega,(zl a b e),zB d a⟩
theorem TG.view{B:Nat}{w:World}{tb o:Nat}{t:List zh}(h:TG B w tb o t):∃b a,w.cell? ⟨tb,o,none⟩=some (.slice b t.length a)/\w.ownsRow B 221 3 (.slice b t.length a) t.length (xZ t):=by
 obtain⟨e,_,d,c⟩:=h;obtain⟨b,a,rfl⟩:=zp c;exact⟨b,a,d,c⟩
theorem EM(B:Nat)(w:World)(tb o:Nat)(t:List zh)(n:ByteArray)(h:TG B w tb o t)(u:t.length<=1000):
  Calls prog 126 #[.pointer (some ⟨tb,o,none⟩),.string n] w fun e q=>e=ε (ι (zV t n))/\q=w:=by
 obtain⟨x,m,r,d⟩:=h.view;go_enter func126,ntmps126;go_wp2;go_loop [5] (fun i=>∃k:Nat,k<=t.length/\i=ι k/\Hid (∀j (a:j<t.length),j<k->Ra t[j].name n=true)) (fun i=>t.length-(intOf i).toNat)
 case atStart=>exact⟨0,zv _,rfl,fun j a h=>by omega⟩
 case round=>
  obtain⟨k,s,rfl,H⟩:=hrel;by_cases c:k<t.length
  ·obtain⟨g,rfl,v,_,p,_,_⟩:=kL d k c;cases f:Ra t[k].name n with
   |true=>
    have b:Hid (∀j (a:j<t.length),j<k+1->Ra t[j].name n=true):=fun j a h=>by
     rcases gV j k with l|l
     ·exact H.out j a l
     ·obtain rfl:j=k:=by omega
      exact f
    unfold Ra at f;go_wp2;go_round
    ·exact⟨k+1,by omega,by go_num,b⟩
    ·simp[intOf];omega
   |false=>
    have b:=Q7 (Ak t n k H.out c f);unfold Ra at f;go_wp2;go_ret;exact⟨by rw[b.out];rfl,rfl⟩
  ·have b:Hid (zV t n=k):=by
    have:=Cv t n (fun j a=>H.out j a (by omega));unfold Hid;omega
   go_wp2;go_ret;exact⟨by rw[b.out];rfl,rfl⟩
theorem BG(B:Nat)(w:World)(tb o:Nat)(t:List zh)(n:ByteArray)(h:TG B w tb o t)(l:t.length<=1000)(j:yo t n=none):
  Calls prog 77 #[.pointer (some ⟨tb,o,none⟩),.string n] w fun e f=>e=ε (.tuple #[ι 0,.bool false])/\f=w:=by
 have d:=EM B w tb o t n h l;obtain⟨r,k,p,b⟩:=h.view;have a:=Q7 d;rcases tZ j with i|⟨i,c⟩
 ·clear j;go_enter func77,ntmps77;go_wp2_with (go_at_call 126;refine a.out.mono ?_;rintro e f ⟨rfl,rfl⟩;clear a)
  go_ret2
  exact⟨rfl,rfl⟩
 ·obtain⟨g,rfl,q,_,m,_,_⟩:=kL b _ i;have s:=j5 c;go_enter func77,ntmps77;go_wp2_with (go_at_call 126;refine a.out.mono ?_;rintro e f ⟨rfl,rfl⟩;clear a)
  go_ret2
  exact⟨rfl,rfl⟩
theorem Fa(B:Nat)(w:World)(tb o:Nat)(t:List zh)(n:ByteArray)(p:zh)(h:TG B w tb o t)(q:t.length<=1000)(r:yo t n=some p):
  Calls prog 77 #[.pointer (some ⟨tb,o,none⟩),.string n] w fun e j=>e=ε (.tuple #[ι (zV t n),.bool true])/\j=w:=by
 have c:=EM B w tb o t n h q;obtain⟨v,k,s,b⟩:=h.view;have a:=Q7 c;obtain⟨m,d,l⟩:=jV r;obtain⟨g,rfl,u,_,i,_,f⟩:=kL b _ m;rw[d] at i f;go_enter func77,ntmps77;go_wp2_with (go_at_call 126;refine a.out.mono ?_;rintro e j ⟨rfl,rfl⟩;clear a)
 go_ret2
 exact⟨rfl,rfl⟩
theorem GD(B:Nat)(w:World)(tb o:Nat)(t:List zh)(n:ByteArray)(h:TG B w tb o t)(d:t.length<=1000)(c:yo t n=none):
  Calls prog 159 #[.pointer (some ⟨tb,o,none⟩),.string n] w fun e b=>e=ε (.tuple #[ι 0,.bool false])/\b=w:=by
 have a:=Q7 (BG B w tb o t n h d c);clear h c d;go_enter func159,ntmps159;go_wp2_with (go_at_call 77;refine a.out.mono ?_;rintro e b ⟨rfl,rfl⟩;clear a)
 go_ret2
 exact⟨rfl,rfl⟩
theorem NM(B:Nat)(w:World)(tb o:Nat)(t:List zh)(n:ByteArray)(b:zh)(h:TG B w tb o t)(m:t.length<=1000)(d:yo t n=some b):
  Calls prog 159 #[.pointer (some ⟨tb,o,none⟩),.string n] w fun e f=>e=ε (.tuple #[ι b.qh,.bool true])/\f=w:=by
 have c:=Q7 (Fa B w tb o t n b h m d);obtain⟨u,i,r,a⟩:=h.view;obtain⟨k,l,j⟩:=jV d;obtain⟨g,rfl,s,_,q,_,p⟩:=kL a _ k;go_enter func159,ntmps159;go_wp2_with (go_at_call 77;refine c.out.mono ?_;rintro e f ⟨rfl,rfl⟩;clear c)
 go_ret2
 exact⟨rfl,rfl⟩
def zO(t:List zh)(n:ByteArray):Nat:=if (yo t n).isSome then zV t n else 0
def xr(t:List zh)(n:ByteArray):Nat:=match yo t n with|some e=>e.qh|none=>0
theorem O0(B:Nat)(w:World)(tb o:Nat)(t:List zh)(n:ByteArray)(h:TG B w tb o t)(a:t.length<=1000):
  Calls prog 77 #[.pointer (some ⟨tb,o,none⟩),.string n] w fun e c=>e=ε (.tuple #[ι (zO t n:Nat),.bool (yo t n).isSome])/\c=w:=by
 unfold zO;cases b:yo t n with
 |none=>exact BG B w tb o t n h a b
 |some d=>exact Fa B w tb o t n d h a b
theorem JU(B:Nat)(w:World)(tb o:Nat)(t:List zh)(n:ByteArray)(h:TG B w tb o t)(a:t.length<=1000):
  Calls prog 159 #[.pointer (some ⟨tb,o,none⟩),.string n] w fun e c=>e=ε (.tuple #[ι (xr t n:Nat),.bool (yo t n).isSome])/\c=w:=by
 unfold xr;cases b:yo t n with
 |none=>exact GD B w tb o t n h a b
 |some d=>exact NM B w tb o t n d h a b
def uK(t:List zh)(i:Nat):Nat:=(t.map (·.jh)).getD i 0
theorem Hw(B:Nat)(w:World)(tb o:Nat)(t:List zh)(h:TG B w tb o t):
  Calls prog 115 #[.pointer (some ⟨tb,o,none⟩)] w fun e c=>e=ε (ι t.length)/\c=w:=by
 obtain⟨f,b,d,a⟩:=h.view;clear h;go_enter func115,ntmps115;go_wp2;go_ret;exact⟨rfl,rfl⟩
theorem Nu(B:Nat)(w:World)(tb o:Nat)(t:List zh)(i:Nat)(h:TG B w tb o t):
  Calls prog 80 #[.pointer (some ⟨tb,o,none⟩),ι i] w fun e j=>e=ε (ι (uK t i:Nat))/\j=w:=by
 obtain⟨m,d,k,a⟩:=h.view;by_cases c:i<t.length
 ·obtain⟨g,rfl,l,_,_,f,_⟩:=kL a i c;have b:Hid (uK t i=t[i].jh):=by simp[Hid,uK,c]
  go_enter func80,ntmps80;go_wp2;go_ret;exact⟨by rw[b.out];rfl,rfl⟩
 ·have b:Hid (uK t i=0):=by simp[Hid,uK,List.getD_eq_getElem?_getD,List.getElem?_eq_none (Nat.not_lt.1 c)]
  go_enter func80,ntmps80;go_wp2;go_ret;exact⟨by rw[b.out];rfl,rfl⟩
theorem GV(w:World)(f:Nat)(d:Value)(vs:κ)(t:ByteArray)(n:w.cell? ⟨f,0,none⟩=some d)(hs:QF lo w d vs)(p:vs.length<=1000):
  Calls prog 200 #[(π f),.string t] w fun e l=>e=ε (.tuple #[ι ((yu vs t).getD 0:Nat),.bool (yu vs t).isSome])/\l=w:=by
 obtain⟨r,h,rfl⟩:=hs.qx;go_enter func200,ntmps200;go_wp2;go_loop [13] (fun i=>∃k:Nat,k<=vs.length/\i=ι k/\Hid (yu vs t=(yu (vs.drop k) t).map (·+k))) (fun i=>vs.length-(intOf i).toNat)
 case atStart=>exact⟨0,zv _,rfl,by simp[Hid]⟩
 case round=>
  obtain⟨k,o,rfl,H⟩:=hrel;by_cases a:k<vs.length
  ·obtain⟨g,rfl,q,j⟩:=hs.cell k a;by_cases c:vs[k]=t
   ·have m:=gE c;have b:Hid (yu vs t=some k):=by rw[Hid,H.out,oK a c];simp
    go_wp2;go_ret2
    exact⟨by rw[b.out];rfl,rfl⟩
   ·have m:=j5 c;have b:Hid (yu vs t=(yu (vs.drop (k+1)) t).map (·+(k+1))):=by
     rw[Hid,H.out,oR a c];cases yu (vs.drop (k+1)) t<;>simp;omega
    go_wp2;go_round
    ·exact⟨k+1,by omega,by go_num,b⟩
    ·simp[intOf];omega
  ·have b:Hid (yu vs t=none):=by rw[Hid,H.out,uj (by omega)];rfl
   go_wp2;go_ret2
   exact⟨by rw[b.out];rfl,rfl⟩
theorem wW(w:World)(b:Nat)(a:Value)(vs:κ)(f:w.cell? ⟨b,0,none⟩=some a)(hs:QF lo w a vs):
  Calls prog 146 #[(π b)] w fun e d=>e=ε (ι vs.length)/\d=w:=by
 obtain⟨g,c,rfl⟩:=hs.qx;go_enter func146,ntmps146;go_wp2;go_ret;exact⟨rfl,rfl⟩
end
section
variable {lo:Nat}{w:World}{v:Value}{o:Option (List Int)}
def uA(w:World)(v:Value)(o:Option (List Int)):Prop:=match o with
 |none=>v=ν
 |some l=>∃g f a,v=.slice (some ⟨g,f,none⟩) l.length a/\g<w.heap.size/\∀k (h:k<l.length),w.cell? ⟨g,f+k,none⟩=some (ι l[k])
theorem uA.below{w':World}(h:uA w v o)(b:μ w w'):uA w' v o:=by
 cases o with
 |none=>exact h
 |some l=>
  obtain⟨g,f,a,i,c,d⟩:=h;exact⟨g,f,a,i,by have:=b.size;omega,fun k e=>(b.cell (p:=⟨g,f+k,none⟩) c).trans (d k e)⟩
theorem uA.qx(h:uA w v o):∃b a,v=.slice b (o.getD []).length a:=by
 cases o with
 |none=>exact⟨none,0,h⟩
 |some l=>obtain⟨g,f,a,c,_⟩:=h;exact⟨_,a,c⟩
theorem uA.cell{w:World}{a:Option Addr}{n cap:Nat}{o:Option (List Int)}(h:uA w (.slice a n cap) o)(k:Nat)(c:k<(o.getD []).length):∃g f,a=some ⟨g,f,none⟩/\g<w.heap.size/\w.cell? ⟨g,f+k,none⟩=some (ι (o.getD [])[k]):=by
 cases o with
 |none=>simp at c
 |some l=>
  obtain⟨g,f,cap,b,d,e⟩:=h;simp only[Value.slice.injEq] at b;exact⟨g,f,b.1,d,e k c⟩
def jF(w:World)(v:Value)(os:Option (List (Option (List Int)))):Prop:=match os with
 |none=>v=ν
 |some l=>∃g f a,v=.slice (some ⟨g,f,none⟩) l.length a/\g<w.heap.size/\∀k (h:k<l.length),∃u,w.cell? ⟨g,f+k,none⟩=some u/\uA w u l[k]
theorem jF.below{w w':World}{v:Value}{os:Option (List (Option (List Int)))}(h:jF w v os)(b:μ w w'):jF w' v os:=by
 cases os with
 |none=>exact h
 |some l=>
  obtain⟨g,f,a,m,e,i⟩:=h;refine⟨g,f,a,m,by have:=b.size;omega,fun k j=>?_⟩;obtain⟨u,c,d⟩:=i k j;exact⟨u,(zl b e c),d.below b⟩
theorem jF.qx{os:Option (List (Option (List Int)))}(h:jF w v os):∃b a,v=.slice b (os.getD []).length a:=by
 cases os with
 |none=>exact⟨none,0,h⟩
 |some l=>obtain⟨g,f,a,c,_⟩:=h;exact⟨_,a,c⟩
theorem jF.cell{w:World}{a:Option Addr}{n cap:Nat}{os:Option (List (Option (List Int)))}(h:jF w (.slice a n cap) os)(k:Nat)(c:k<(os.getD []).length):∃g f u,a=some ⟨g,f,none⟩/\g<w.heap.size/\w.cell? ⟨g,f+k,none⟩=some u/\uA w u (os.getD [])[k]:=by
 cases os with
 |none=>simp at c
 |some l=>
  obtain⟨g,f,cap,b,i,j⟩:=h;simp only[Value.slice.injEq] at b;obtain⟨u,e,d⟩:=j k c;exact⟨g,f,u,b.1,i,e,d⟩
end
section
open Go.Proofs.Tryz
variable {lo:Nat}{l:List Int}{seen:List Bool}
def j7(n:Nat):List Int->List Bool->Bool
 |[],_=>true
 |x::r,seen=>if x<0∨(n:Int)<=x∨5<=x then false else if seen.getD x.toNat false then false else j7 n r (seen.set x.toNat true)
def pL(l:List Int):Bool:=j7 l.length l [false,false,false,false,false]
theorem L8{n k:Nat}(a:k<l.length)(h:l[k]<0∨(n:Int)<=l[k]∨5<=l[k]):j7 n (l.drop k) seen=false:=by
 rw[xn a,j7,zc h]
theorem J0{n k:Nat}(a:k<l.length)(h:seen.getD l[k].toNat false=true):j7 n (l.drop k) seen=false:=by
 rw[xn a,j7];split
 ·rfl
 ·simp
theorem NN{n k:Nat}(a:k<l.length)(h:¬(l[k]<0∨(n:Int)<=l[k]∨5<=l[k]))(b:seen.getD l[k].toNat false=false):j7 n (l.drop k) seen=j7 n (l.drop (k+1)) (seen.set l[k].toNat true):=by
 rw[xn a,j7,za h,za (by rw[b];decide)]
theorem LI(w:World)(v:Value)(l:List Int)(h:uA w v (some l))(P:l.length<=2000000):
  Calls prog 155 #[v] w fun e F=>e=ε (.bool (pL l))/\μ w F:=by
 obtain⟨g,f,J,rfl,H,q⟩:=h;have C:=Q7 q;go_enter func155,ntmps155;go_wp2;go_loopw [8] (fun K wr=>∃(k:Nat) (seen:List Bool),k<=l.length/\K=ι k/\seen.length=5/\Q8 wr w.heap.size (seen.map Value.bool).toArray 282/\Hid (pL l=j7 l.length (l.drop k) seen)/\μ w wr) (fun i _=>l.length-(intOf i).toNat)
 case atStart=>exact⟨0,[false,false,false,false,false],zv _,rfl,rfl,Q8.new _ _ _,rfl,(by go_grown)⟩
 case round=>
  obtain⟨k,seen,Q,rfl,m,o,j,a⟩:=hrel;have z:=a.size;by_cases c:k<l.length
  ·have M:=(a.cell (p:=⟨g,f+k,none⟩) H).trans (C.out k c);have r:Hid ((l[k]<0∨(l.length:Int)<=l[k]∨5<=l[k])->j7 l.length (l.drop k) seen=false):=fun h=>L8 c h;have A:Hid (seen.getD l[k].toNat false=true->j7 l.length (l.drop k) seen=false):=fun h=>J0 c h;have u:=Q7 fun(h:¬(l[k]<0∨(l.length:Int)<=l[k]∨5<=l[k])) (E:seen.getD l[k].toNat false=false)=>NN c h E;generalize l[k]=x at *;by_cases t:x<0
   ·go_wp2;go_ret;exact⟨by rw[j.out,r.out (zf t)];rfl,a⟩
   ·obtain⟨n,rfl⟩:=Int.eq_ofNat_of_zero_le (Int.not_lt.1 t);by_cases L:(l.length:Int)<=(n:Int)
    ·go_wp2;go_ret;exact⟨by rw[j.out,r.out (zb (zf L))];rfl,a⟩
    ·by_cases G:(5:Int)<=(n:Int)
     ·go_wp2;go_ret;exact⟨by rw[j.out,r.out (zb (zb G))];rfl,a⟩
     ·have s:n<5:=by omega
      obtain⟨y,O⟩:=o.rules;have B:wr.cell? ⟨w.heap.size,n,none⟩=some (.bool (seen.getD n false)):=by
       rw[y];simp[m,s,List.getD_eq_getElem?_getD]
      have d:=o.set n (.bool true);have I:Hid (((seen.map Value.bool).toArray.setIfInBounds n (.bool true))=((seen.set n true).map Value.bool).toArray):=by simp[Hid,List.map_set]
      rw[I.out] at d;simp only[Int.toNat_natCast] at A u;clear y;generalize N:seen.getD n false=b at *;cases b with
      |true=>
       go_wp2;go_ret;exact⟨by rw[j.out,A.out (by trivial)];rfl,a⟩
      |false=>
       go_wp2;go_roundw
       ·exact⟨k+1,seen.set n true,by omega,by go_num,by simpa using m,d,by rw[Hid,j.out,u.out (by omega) (by trivial)],a.setCell (by simp) _⟩
       ·simp[intOf];omega
  ·have D:Hid (j7 l.length (l.drop k) seen=true):=by rw[uj (by omega)];rfl
   go_wp2;go_ret;exact⟨by rw[j.out,D.out];rfl,a⟩
def vi(c:zd):Option (List Int)->Bool
 |none=>true
 |some l=>l.length == (zw c).length&&pL l
theorem GG(w:World)(c:zd)(A B y:Value)(o:Option (List Int))(hs:QF lo w A c.head.args)(G:Rg lo w B c.body)(H:c.head.args.length+yS c.body<=1000)(q:c.body.length<=1000)(z:uA w y o)(u:(o.getD []).length<=2000000):
  Calls prog 112 #[.agg #[.bool c.head.neg,.string c.head.pred,A,B],y] w fun e J=>e=ε (.bool (vi c o))/\μ w J:=by
 have C:=Q7 fun W n=>Ae W c _ _ (hs.below n) (G.below n) H q;cases o with
 |none=>
  have F:=z;subst F;have k:∀W:World,(binOp .eql 24 (ν) (ν)).run prog W=.ok (.bool true) W:=fun W=>by
   have:=run_equal_slice_nil W 24 3 none 0 0 underlying24;simp[binOp,this]
  go_enter func112,ntmps112;go_wp2;go_ret;exact⟨rfl,(by go_grown)⟩
 |some l=>
  have K:=Q7 fun W n=>LI W y l (z.below n) u;have D:Hid (vi c (some l)=(l.length == (zw c).length&&pL l)):=rfl;obtain⟨g,f,h,rfl,_,_⟩:=z;have k:∀W:World,(binOp .eql 24 (.slice (some ⟨g,f,none⟩) l.length h) (ν)).run prog W=.ok (.bool false) W:=fun W=>by
   have:=run_equal_slice_nil W 24 3 (some ⟨g,f,none⟩) l.length h underlying24;simp[binOp,this]
  generalize zw c=vs at *;by_cases p:l.length=vs.length
  ·have r:((l.length:Int) != (vs.length:Int))=false:=by rw[p];simp
   have t:=Q7 p;clear p;go_enter func112,ntmps112;go_wp2_with (first|(go_at_call 148;refine(C.out _ (by exact(by go_grown))).mono ?_;rintro e v ⟨E,rfl,a,j⟩;obtain⟨s,m,rfl⟩:=zp a;have b:μ w v:=(zQ (by go_grown) j (zg _));have d:=b.size)|(go_at_call 146;refine(wW _ _ _ vs (by exact(Q8.new _ _ _).rules.1 0) (by exact zB a (by go_grown))).mono ?_;rintro e I ⟨rfl,i⟩;obtain rfl:=i.symm)|(go_at_call 155;refine(K.out _ (by exact(b.alloc d _))).mono ?_;rintro e L ⟨rfl,x⟩))
   go_ret;exact⟨by rw[D.out];simp[t.out],QB (b.alloc d _) x⟩
  ·have r:((l.length:Int) != (vs.length:Int))=true:=by rw[bne_iff_ne];omega
   go_enter func112,ntmps112;go_wp2_with (first|(go_at_call 148;refine(C.out _ (by exact(by go_grown))).mono ?_;rintro e v ⟨E,rfl,a,j⟩;obtain⟨s,m,rfl⟩:=zp a;have b:μ w v:=(zQ (by go_grown) j (zg _));have d:=b.size)|(go_at_call 146;refine(wW _ _ _ vs (by exact(Q8.new _ _ _).rules.1 0) (by exact zB a (by go_grown))).mono ?_;rintro e I ⟨rfl,i⟩;obtain rfl:=i.symm))
   go_ret;exact⟨by rw[D.out];simp[p],b.alloc d _⟩
def vq(cs:List zd):Option (List (Option (List Int)))->Bool
 |none=>true
 |some l=>l.length == cs.length&&(cs.zip l).all fun x=>vi x.1 x.2
theorem Ls(cs:List zd)(l:List (Option (List Int)))(h:l.length=cs.length)(k:Nat)(a:k<cs.length):((cs.drop k).zip (l.drop k)).all (fun x=>vi x.1 x.2)=(vi cs[k] (l[k]'(by omega))&&((cs.drop (k+1)).zip (l.drop (k+1))).all fun x=>vi x.1 x.2):=by
 rw[xn a,xn (l:=l) (i:=k) (by omega),List.zip_cons_cons,List.all_cons]
theorem D6(w:World)(cv ov:Value)(cs:List zd)(os:Option (List (Option (List Int))))(hc:Rl lo 171 w cv cs)(H:∀c∈cs,vP c)(hl:cs.length<=1000)(ho:jF w ov os)(ae:(os.getD []).length<=2000000)(z:∀o∈os.getD [],(o.getD []).length<=2000000):
  Calls prog 71 #[cv,ov] w fun e h=>e=ε (.bool (vq cs os))/\μ w h:=by
 obtain⟨ai,ag,rfl⟩:=hc.qx;cases os with
 |none=>
  have h0:ov=ν:=ho;subst h0;have s:∀W:World,(binOp .eql 26 (ν) (ν)).run prog W=.ok (.bool true) W:=fun W=>by
   have:=run_equal_slice_nil W 26 24 none 0 0 underlying26;simp[binOp,this]
  go_enter func71,ntmps71;go_wp2;go_ret;exact⟨rfl,(by go_grown)⟩
 |some l=>
  simp only[ux] at ae z;have HO:=Q7 ho;have aa:=Q7 hc;have A:Hid (vq cs (some l)=(l.length == cs.length&&(cs.zip l).all fun x=>vi x.1 x.2)):=rfl;have ad:=Q7 z;have ab:=Q7 H;obtain⟨g,f,t,rfl,hg,_⟩:=ho;have s:∀W:World,(binOp .eql 26 (.slice (some ⟨g,f,none⟩) l.length t) (ν)).run prog W=.ok (.bool false) W:=fun W=>by
   have:=run_equal_slice_nil W 26 24 (some ⟨g,f,none⟩) l.length t underlying26;simp[binOp,this]
  clear hc z H;by_cases j:l.length=cs.length
  ·have D:((l.length:Int) != (cs.length:Int))=false:=by rw[j];simp
   have F:=Q7 j;have aj:l.length<=1000:=by omega
   have Y:Hid (vq cs (some l)=((cs.drop 0).zip (l.drop 0)).all fun x=>vi x.1 x.2):=by rw[Hid,A.out];simp[j]
   clear j A;go_enter func71,ntmps71;go_wp2;clear D s;go_loopw [16] (fun Z wr=>∃k:Nat,k<=cs.length/\Z=ι k/\Hid (vq cs (some l)=((cs.drop k).zip (l.drop k)).all fun x=>vi x.1 x.2)/\μ w wr) (fun i _=>cs.length-(intOf i).toNat)
   case atStart=>exact⟨0,zv _,rfl,Y,(by go_grown)⟩
   case round=>
    clear Y;obtain⟨k,hk,rfl,A,a⟩:=hrel;have ah:=a.size;by_cases q:k<cs.length
    ·have I:k<l.length:=by rw[F.out];exact q
     obtain⟨g0,B,n,y,m,rfl,r,G,T,V,L,Q,M⟩:=aa.out.cell k q;obtain⟨C,P⟩:=ab.out cs[k] (zs q);obtain⟨_,_,u,X,_,hu,J⟩:=HO.out.cell k I;simp only[zt,Addr.mk.injEq,and_true] at X;obtain⟨rfl,rfl⟩:=X;have S:=ad.out l[k] (zs I);have R:=Q7 fun W hW=>GG W cs[k] _ _ u l[k] (Q.below hW) (M.below hW) C P (J.below hW) S;have U:Hid (((cs.drop k).zip (l.drop k)).all (fun x=>vi x.1 x.2)=(vi cs[k] l[k]&&((cs.drop (k+1)).zip (l.drop (k+1))).all fun x=>vi x.1 x.2)):=Ls cs l F.out k q;have e0:=zl a r G;have e1:=zl a r T;have e2:=zl a r V;have e3:=zl a r L;have eu:=zl a hg hu;have af:g0<wr.heap.size:=by omega
     have E:g<wr.heap.size:=by omega
     clear G T V L hu J Q M C P S;generalize cs[k]=c at *;generalize vi c l[k]=b at *;have K:=Q8.new wr #[.bool c.head.neg,.string c.head.pred,.slice B c.head.args.length n,.slice y c.body.length m] 171;cases b with
     |true=>
      go_wp2;go_region_held3 (fun h=>h.cell? ⟨wr.heap.size,0,none⟩=some (.bool c.head.neg)/\h.cell? ⟨wr.heap.size,1,none⟩=some (.string c.head.pred)/\h.cell? ⟨wr.heap.size,2,none⟩=some (.slice B c.head.args.length n)/\h.cell? ⟨wr.heap.size,3,none⟩=some (.slice y c.body.length m)/\h.cell? ⟨g,f+k,none⟩=some u) (first|go_keep|(go_split_ands;refine⟨?_,?_,?_,?_,?_⟩<;>go_keep)) (first|(go_at_call 112;refine(R.out _ (by exact(zQ a (by go_grown) (zg _)))).mono ?_;rintro e w4 ⟨rfl,d⟩;have p:μ wr w4:=(zQ (by go_grown) d (zg _));have v:=K.below (by first|exact d|exact(zJ (zo _ _) _).trans d);obtain⟨N,O⟩:=v.rules;have ac:=(zl p E eu)))
      go_wp2;go_roundw
      ·exact⟨k+1,by omega,by go_num,by rw[Hid,A.out,U.out];simp,QB a p⟩
      ·simp[intOf];omega
     |false=>
      go_wp2;go_region_held3 (fun h=>h.cell? ⟨wr.heap.size,0,none⟩=some (.bool c.head.neg)/\h.cell? ⟨wr.heap.size,1,none⟩=some (.string c.head.pred)/\h.cell? ⟨wr.heap.size,2,none⟩=some (.slice B c.head.args.length n)/\h.cell? ⟨wr.heap.size,3,none⟩=some (.slice y c.body.length m)/\h.cell? ⟨g,f+k,none⟩=some u) (first|go_keep|(go_split_ands;refine⟨?_,?_,?_,?_,?_⟩<;>go_keep)) (first|(go_at_call 112;refine(R.out _ (by exact(zQ a (by go_grown) (zg _)))).mono ?_;rintro e w4 ⟨rfl,d⟩;have p:μ wr w4:=(zQ (by go_grown) d (zg _));have v:=K.below (by first|exact d|exact(zJ (zo _ _) _).trans d);obtain⟨N,O⟩:=v.rules;have ac:=(zl p E eu)))
      go_wp2;go_ret;exact⟨by rw[A.out,U.out];rfl,QB a p⟩
    ·have HZ:Hid (vq cs (some l)=true):=by rw[Hid,A.out,uj (by omega)];rfl
     go_wp2;go_ret;exact⟨by rw[HZ.out];rfl,a⟩
  ·have D:((l.length:Int) != (cs.length:Int))=true:=by rw[bne_iff_ne];omega
   have Y:Hid (vq cs (some l)=false):=by rw[Hid,A.out];simp[j]
   go_enter func71,ntmps71;go_wp2;go_ret;exact⟨by rw[Y.out];rfl,(by go_grown)⟩
end
end Go.Proofs.YteampbddflhngaaGreat
