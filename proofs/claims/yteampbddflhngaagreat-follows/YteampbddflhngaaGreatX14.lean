import Derived.Test.YteampbddflhngaaGreatX09
namespace Go.Proofs.YteampbddflhngaaGreat
set_option linter.all false
set_option maxRecDepth 100000
set_option maxHeartbeats 4000000
open Go.RowKit
section
open Go.Proofs.Tryz
variable {lo:Nat}
def j0(lo:Nat)(w:World)(a:Nat)(v:Value)(ns:List ByteArray):Prop:=lo<=a/\Py w a #[v] 141/\P7 lo w v ns
theorem j0.tab{w:World}{a:Nat}{v:Value}{ns:List ByteArray}(h:j0 lo w a v ns):lB lo w a ns:=⟨h.1,v,h.2.1,h.2.2⟩
theorem j0.below{w a:World}{b:Nat}{v:Value}{ns:List ByteArray}(h:j0 lo w b v ns)(c:Below w.heap.size w a):j0 lo a b v ns:=⟨h.1,h.2.1.below c,h.2.2.below c⟩
def lm(ns:List ByteArray)(x:ByteArray):List ByteArray:=if uz ns x<ns.length/\ns.getD (uz ns x) ByteArray.empty=x then ns else ns.take (uz ns x)++x::ns.drop (uz ns x)
def eT(lo:Nat)(w:World)(c:Nat)(v:Value)(ns:List ByteArray)(e:Ending)(b:World):Prop:=e=.returned (.tuple #[])/\∃a,j0 lo b c a ns/\zd (c::v.ownBlock.toList) w b/\(a.ownBlock=v.ownBlock∨∃g,a.ownBlock=some g/\w.heap.size<=g)
theorem Oo(ns:List ByteArray)(x:ByteArray)(k:Nat)(b:k<ns.length):(((ns.take (k+1)++x::ns.drop (k+1)).set (k+1) ns[k]).set k x)=ns.take k++x::ns.drop k:=by
 have a:(ns.take k).length=k:=by simp;omega
 rw[yP b,xk b,kB,fG _ _ (by omega),a,show k+1-k=1 from by omega,fG _ _ (by omega),a,jH];rfl
theorem N3(w:World)(n:Nat)(v:Value)(ns:List ByteArray)(x:ByteArray)(h:j0 lo w n v ns)(hl:ns.length<=900):
  Calls prog 157 #[.pointer (some ⟨n,0,none⟩),.string x] w fun e w'=>eT lo w n v (lm ns x) e w':=by
 have HP:=Px (Du w n ns x h.tab (by omega));have HH:=Px h;obtain⟨ag,R,hs⟩:=h;obtain⟨W,l,rfl⟩:=hs.qx;have HE:Hid (lm ns x=if uz ns x<ns.length/\ns.getD (uz ns x) ByteArray.empty=x then ns else ns.take (uz ns x)++x::ns.drop (uz ns x)):=rfl;generalize uz ns x=f at *;by_cases S:f<ns.length/\ns.getD f ByteArray.empty=x
 ·rw[zb S] at HE;obtain⟨Q,h2⟩:=S;rw[show ns.getD f ByteArray.empty=ns[f] from by simp[List.getD_eq_getElem?_getD,Q]] at h2;obtain⟨g,rfl,T,A⟩:=hs.cell f Q;have ap:=kL h2;clear h2;generalize ns[f]=y at *;go_enter func157,ntmps157;go_wp2_with (first|(go_at_call 168;refine HP.out.mono ?_;rintro r w' ⟨rfl,m,rfl⟩;have c:=R.below (zL (zo _ _) m);obtain⟨hc,hf,F⟩:=c.boxed;have hx:=((zL (zo w.heap.size w) m).cell (p:=⟨g,f,none⟩) T).trans A;have ax:g<(w.drewN m).heap.size:=T))
  (try simp only[Exit.inBlock,Exit.then]);refine zK (results_none rfl _ _ _) rfl ?_
  exact⟨rfl,_,by rw[HE.out];exact HH.out.below (zL (zo _ _) m),zd.of (zL (zo _ _) m),zg rfl⟩
 ·rw[za S] at HE;obtain⟨i0,hi,aj,ae,ad⟩:=info_parts Po;have ac:Hid (∀m,f<ns.length->∃(y:ByteArray) (g:Nat),W=some ⟨g,0,none⟩/\g<(w.drewN m).heap.size/\(w.drewN m).cell? ⟨g,f,none⟩=some (.string y)/\(y.toList == x.toList)=false):=fun m Q=>by
   obtain⟨g,e,T,A⟩:=hs.cell f Q;have hn:ns[f]≠x:=fun q=>S ⟨Q,by rw[←q];simp[List.getD_eq_getElem?_getD,Q]⟩;exact⟨ns[f],g,e,T,((zL (zo w.heap.size w) m).cell (p:=⟨g,f,none⟩) T).trans A,jp hn⟩
  have av:lo<=w.heap.size:=by have:=R.lt;omega
  by_cases Q:f<ns.length
  ·obtain⟨yy,gg,X,_⟩:=ac.out 0 Q;subst X;go_enter func157,ntmps157;go_wp2_with (first|(go_at_call 168;refine HP.out.mono ?_;rintro r w' ⟨rfl,m,rfl⟩;have t:Below w.heap.size w (w.drewN m):=(zL (zo _ _) m);have c:=R.below t;obtain⟨hc,hf,F⟩:=c.boxed;have I:=hs.below t;obtain⟨y,g,X,T,hx,ap⟩:=ac.out m Q;simp only[zr,Addr.mk.injEq] at X;obtain⟨rfl,_⟩:=X)|(at_builtin;refine dO (w.drewN m) _ [.string x] _ rfl (.tmp 31) (.tmp 33) 30 rfl lo 9 i0 _ 1 16 underlying30 hi aj ae ad rfl (by decide) (.slice (some ⟨gg,0,none⟩) ns.length l) ns.length (ns.map Value.string) rfl I (zo _ _) _ _ rfl (by simp) rfl (by simp[Value.oneCell']) (by omega) (by omega) (by omega) ?_;intro v' P o C s;obtain⟨an,a,rfl⟩:=zs o;have d:=c.save C (qH I c (by decide));obtain⟨Y,U,K⟩:=d.boxed))
   obtain⟨b,ah,L,aa,ao,_⟩:=yC o (by omega);simp only[Value.slice.injEq] at L;obtain⟨rfl,_,O⟩:=L;clear O;have J:b≠n:=xM o d (by decide) rfl;have u:=d.set 0 (.slice (some ⟨b,0,none⟩) (ns.length+1) a);simp at u;have ab:P7 lo (P.setCell ⟨n,0,none⟩ (.slice (some ⟨b,0,none⟩) (ns.length+1) a)) (.slice (some ⟨b,0,none⟩) (ns.length+1) a) (ns.take ns.length++x::ns.drop ns.length):=by
    have q:=xK o ((PB.refl n P).setCell 0 (.slice (some ⟨b,0,none⟩) (ns.length+1) a)) d (by decide);unfold P7;simpa using q
   have H:∀y∈[b],y∈n::(Value.slice (some ⟨gg,0,none⟩) ns.length l).ownBlock.toList∨w.heap.size<=y:=fun y B=>by
    simp only[xO] at B;subst B;rcases s with q|⟨g,q,T⟩
    ·left;simp only[zu];right;rw[←q];simp[Value.ownBlock]
    ·right;simp only[Value.ownBlock,zr] at q;have:=t.size;omega
   have N:zd (n::(Value.slice (some ⟨gg,0,none⟩) ns.length l).ownBlock.toList) w (P.setCell ⟨n,0,none⟩ (.slice (some ⟨b,0,none⟩) (ns.length+1) a)):=((zd.of (M:=n::(Value.slice (some ⟨gg,0,none⟩) ns.length l).ownBlock.toList) t).newer C (fun y B=>zg (nO _ B))).newer (zd.set _ _ _ _) (fun y B=>zg (by simp at B;simp[B]));have G:(Value.slice (some ⟨b,0,none⟩) (ns.length+1) a).ownBlock=(Value.slice (some ⟨gg,0,none⟩) ns.length l).ownBlock∨∃g,(Value.slice (some ⟨b,0,none⟩) (ns.length+1) a).ownBlock=some g/\w.heap.size<=g:=s.imp id (fun⟨g,q1,q2⟩=>⟨g,q1,by have:=t.size;omega⟩);clear hc hf F Y U K C s o;generalize P.setCell ⟨n,0,none⟩ (.slice (some ⟨b,0,none⟩) (ns.length+1) a)=w5 at *;generalize decide (f<ns.length)=bq;go_loopw [5] (fun v5 wr=>∃k:Nat,v5=.int .i64 k/\k<=ns.length/\(f<=k∨k=ns.length)/\Py wr n #[.slice (some ⟨b,0,none⟩) (ns.length+1) a] 141/\P7 lo wr (.slice (some ⟨b,0,none⟩) (ns.length+1) a) (ns.take k++x::ns.drop k)/\zd (n::(Value.slice (some ⟨gg,0,none⟩) ns.length l).ownBlock.toList) w wr) (fun i _=>(intOf i).toNat)
   case atStart=>exact⟨ns.length,by go_num,zf _,ze rfl,u,ab,N⟩
   case round=>
    obtain⟨k,rfl,hk,am,E,z,D⟩:=hrel;obtain⟨hc,hf,F⟩:=E.boxed;by_cases al:f<k
    ·obtain⟨j,rfl⟩:∃j,k=j+1:=⟨k-1,by omega⟩;have hj:j<ns.length:=by omega
     have ai:(ns.take (j+1)++x::ns.drop (j+1)).length=ns.length+1:=by simp;omega
     have au:b<wr.heap.size:=yU z rfl;have a0:=qF z;obtain⟨_,e0,_,aq⟩:=z.cell j (by omega);obtain⟨_,X,_,az⟩:=z.cell (j+1) (by omega);simp only[zr,Addr.mk.injEq] at e0 X;obtain⟨rfl,_⟩:=e0;obtain⟨rfl,_⟩:=X;have ej:(ns.take (j+1)++x::ns.drop (j+1))[j]'(by omega)=ns[j]:=by
      rw[uQ (by simp;omega)];simp
     rw[ej] at aq;have q1:=uI z (j+1) (by simp;omega) (.string ns[j]);have q2:=uI q1 j (by simp;omega) (.string x);have el:(((ns.take (j+1)++x::ns.drop (j+1)).map Value.string).set (j+1) (.string ns[j])).set j (.string x)=(ns.take j++x::ns.drop j).map Value.string:=by
      rw[←fA,←fA,Oo ns x j hj]
     rw[el] at q2;have Z:(ns.take j++x::ns.drop j).length=ns.length+1:=by simp;omega
     have ar:P7 lo ((wr.setCell ⟨b,j+1,none⟩ (.string ns[j])).setCell ⟨b,j,none⟩ (.string x)) (.slice (some ⟨b,0,none⟩) (ns.length+1) a) (ns.take j++x::ns.drop j):=by
      unfold P7;rw[Z];rw[ai] at q2;exact q2
     have af:=(E.set_ne (Ne.symm J) (j+1) (.string ns[j])).set_ne (Ne.symm J) j (.string x);have ak:=(D.newer (zd.set wr b (j+1) (.string ns[j])) H).newer (zd.set _ b j (.string x)) H;generalize (ns.take (j+1)++x::ns.drop (j+1))[j+1]'(by omega)=zz at *;clear ej q1 q2 el;generalize ns[j]=yj at *;have ay:(j:Int)<(ns.length:Int):=by omega
     go_wp2;go_region
     all_goals
      go_wp2;go_roundw
      case rel=>exact⟨j,by go_num,by omega,zg (by omega),af.below (zo _ _).drew,ar.below (zo _ _).drew,ak.newer (zd.of (M:=[]) (zo _ _).drew) (by simp)⟩
      case measure=>simp[intOf]
    ·have V:Hid (ns.take k++x::ns.drop k=ns.take f++x::ns.drop f):=by
      rw[Hid];by_cases e:k=f
      ·rw[e]
      ·obtain rfl:k=ns.length:=by omega
       rw[xi (zf _),tp (zf _),xi (by omega),tp (by omega)]
     go_wp2;go_end0
     exact⟨rfl,_,by rw[HE.out,←V.out];exact⟨ag,E,z⟩,D,G⟩
  ·have aw:ns.length<=f:=by omega
   go_enter func157,ntmps157;go_wp2_with (first|(go_at_call 168;refine HP.out.mono ?_;rintro r w' ⟨rfl,m,rfl⟩;have t:Below w.heap.size w (w.drewN m):=(zL (zo _ _) m);have c:=R.below t;obtain⟨hc,hf,F⟩:=c.boxed;have I:=hs.below t)|(at_builtin;refine dO (w.drewN m) _ [.string x] _ rfl (.tmp 31) (.tmp 33) 30 rfl lo 9 i0 _ 1 16 underlying30 hi aj ae ad rfl (by decide) (.slice W ns.length l) ns.length (ns.map Value.string) rfl I (zo _ _) _ _ rfl (by simp) rfl (by simp[Value.oneCell']) (by omega) (by omega) (by omega) ?_;intro v' P o C s;obtain⟨an,a,rfl⟩:=zs o;have d:=c.save C (qH I c (by decide));obtain⟨Y,U,K⟩:=d.boxed))
   obtain⟨b,ah,L,aa,ao,_⟩:=yC o (by omega);simp only[Value.slice.injEq] at L;obtain⟨rfl,_,O⟩:=L;clear O;have J:b≠n:=xM o d (by decide) rfl;have u:=d.set 0 (.slice (some ⟨b,0,none⟩) (ns.length+1) a);simp at u;have ab:P7 lo (P.setCell ⟨n,0,none⟩ (.slice (some ⟨b,0,none⟩) (ns.length+1) a)) (.slice (some ⟨b,0,none⟩) (ns.length+1) a) (ns.take ns.length++x::ns.drop ns.length):=by
    have q:=xK o ((PB.refl n P).setCell 0 (.slice (some ⟨b,0,none⟩) (ns.length+1) a)) d (by decide);unfold P7;simpa using q
   have H:∀y∈[b],y∈n::(Value.slice W ns.length l).ownBlock.toList∨w.heap.size<=y:=fun y B=>by
    simp only[xO] at B;subst B;rcases s with q|⟨g,q,T⟩
    ·left;simp only[zu];right;rw[←q];simp[Value.ownBlock]
    ·right;simp only[Value.ownBlock,zr] at q;have:=t.size;omega
   have N:zd (n::(Value.slice W ns.length l).ownBlock.toList) w (P.setCell ⟨n,0,none⟩ (.slice (some ⟨b,0,none⟩) (ns.length+1) a)):=((zd.of (M:=n::(Value.slice W ns.length l).ownBlock.toList) t).newer C (fun y B=>zg (nO _ B))).newer (zd.set _ _ _ _) (fun y B=>zg (by simp at B;simp[B]));have G:(Value.slice (some ⟨b,0,none⟩) (ns.length+1) a).ownBlock=(Value.slice W ns.length l).ownBlock∨∃g,(Value.slice (some ⟨b,0,none⟩) (ns.length+1) a).ownBlock=some g/\w.heap.size<=g:=s.imp id (fun⟨g,q1,q2⟩=>⟨g,q1,by have:=t.size;omega⟩);clear hc hf F Y U K C s o;generalize P.setCell ⟨n,0,none⟩ (.slice (some ⟨b,0,none⟩) (ns.length+1) a)=w5 at *;generalize decide (f<ns.length)=bq;go_loopw [5] (fun v5 wr=>∃k:Nat,v5=.int .i64 k/\k<=ns.length/\(f<=k∨k=ns.length)/\Py wr n #[.slice (some ⟨b,0,none⟩) (ns.length+1) a] 141/\P7 lo wr (.slice (some ⟨b,0,none⟩) (ns.length+1) a) (ns.take k++x::ns.drop k)/\zd (n::(Value.slice W ns.length l).ownBlock.toList) w wr) (fun i _=>(intOf i).toNat)
   case atStart=>exact⟨ns.length,by go_num,zf _,ze rfl,u,ab,N⟩
   case round=>
    obtain⟨k,rfl,hk,am,E,z,D⟩:=hrel;obtain⟨hc,hf,F⟩:=E.boxed;by_cases al:f<k
    ·exact zB al (by omega)
    ·have V:Hid (ns.take k++x::ns.drop k=ns.take f++x::ns.drop f):=by
      rw[Hid];by_cases e:k=f
      ·rw[e]
      ·obtain rfl:k=ns.length:=by omega
       rw[xi (zf _),tp (zf _),xi (by omega),tp (by omega)]
     go_wp2;go_end0
     exact⟨rfl,_,by rw[HE.out,←V.out];exact⟨ag,E,z⟩,D,G⟩
end
section
open Go.Proofs.Tryz
variable {lo:Nat}{cb:Nat}
def qq(ns:List ByteArray)(t:ByteArray):List ByteArray:=if zO t then ns else lm ns t
def ut(ns:List ByteArray)(l:zj):List ByteArray:=l.args.foldl qq ns
def vZ(ns:List ByteArray)(c:zc):List ByteArray:=c.body.foldl ut (ut ns c.head)
def zp(cs:List zc):List ByteArray:=cs.foldl vZ []
theorem Kp(ns:List ByteArray)(t:ByteArray):(qq ns t).length<=ns.length+1:=by
 unfold qq;split
 ·omega
 ·unfold lm;split
  ·omega
  ·simp only[yv,xd,vU,List.length_drop];omega
theorem rZ(ts:List ByteArray):∀a:List ByteArray,(ts.foldl qq a).length<=a.length+ts.length:=by
 induction ts with
 |nil=>intro a;simp
 |cons t ts b=>intro a;have:=b (qq a t);have:=Kp a t;simp only[un,xd];omega
def ka(l:zj):Nat:=l.args.length
def gj(a:List zj):Nat:=(a.map ka).sum
def ft(cs:List zc):Nat:=(cs.map fun c=>ka c.head+gj c.body).sum
theorem Dw(b:List zj):∀a:List ByteArray,(b.foldl ut a).length<=a.length+gj b:=by
 induction b with
 |nil=>intro a;simp[gj]
 |cons l b c=>intro a;have:=c (ut a l);have:=rZ l.args a;simp only[un,gj,xQ,vI,ka] at *;unfold ut at *;omega
theorem Do(cs:List zc):∀a:List ByteArray,(cs.foldl vZ a).length<=a.length+ft cs:=by
 induction cs with
 |nil=>intro a;simp[ft]
 |cons c cs b=>intro a;have:=b (vZ a c);have:=Dw c.body (ut a c.head);have:=rZ c.head.args a;simp only[un,ft,xQ,vI] at *;unfold vZ ka at *;unfold ut at *;omega
theorem IG(a:List zj)(k:Nat)(b:k<a.length):gj (a.take k)+ka a[k]<=gj a:=by
 have e:a=a.take k++a[k]::a.drop (k+1):=by rw[←xk b,qU]
 conv=>rhs;rw[e]
 simp only[gj,vC,xQ,List.sum_append,vI];omega
theorem JR(cs:List zc)(k:Nat)(a:k<cs.length):ft (cs.take k)+(ka cs[k].head+gj cs[k].body)<=ft cs:=by
 have e:cs=cs.take k++cs[k]::cs.drop (k+1):=by rw[←xk a,qU]
 conv=>rhs;rw[e]
 simp only[ft,vC,xQ,List.sum_append,vI];omega
def fW(cb:Nat)(w a:World):Prop:=∀b c t,b≠cb->9≠t->Py w b c t->Py a b c t
theorem fW.of{w a:World}(h:Below w.heap.size w a):fW cb w a:=fun _ _ _ _ _ q=>q.below h
theorem fW.trans{a b c:World}(h:fW cb a b)(k:fW cb b c):fW cb a c:=fun _ _ _ n m q=>k _ _ _ n m (h _ _ _ n m q)
theorem eT.next{B:Nat}{k w i:World}{v:Value}{ns d:List ByteArray}{e:Ending}(a:j0 B w cb v ns)(n:Below B k w)(h:eT B w cb v d e i):e=.returned (.tuple #[])/\∃j,j0 B i cb j d/\Below B k i/\fW cb w i:=by
 obtain⟨rfl,j,o,l,r⟩:=h;refine⟨rfl,j,o,n.trans (l.below (fun x f=>?_) ?_),fun b c t m p q=>q.save l fun g=>?_⟩
 ·simp only[zu] at f;rcases f with rfl|f
  ·exact a.1
  ·exact xb a.2.2 (yw f)
 ·have:=a.1;have:=a.2.1.lt;omega
 ·simp only[zu] at g;rcases g with rfl|g
  ·exact m rfl
  ·exact xM a.2.2 q p (yw g) rfl
theorem Hd(c w:World)(cb:Nat)(v:Value)(ns:List ByteArray)(l:zj)(J:Value)(hs:P7 lo c J l.args)(K:Below c.heap.size c w)(h:j0 c.heap.size w cb v ns)(L:ns.length+ka l<=900):
  Calls prog 113 #[.pointer (some ⟨cb,0,none⟩),.agg #[.bool l.neg,.string l.pred,J]] w fun e f=>e=.returned (.tuple #[])/\∃p,j0 c.heap.size f cb p (ut ns l)/\Below c.heap.size c f/\fW cb w f:=by
 obtain⟨Z,X,rfl⟩:=hs.qx;have V:=Px fun(W:World) (v:Value) (ns:List ByteArray) (x:ByteArray) (a:j0 c.heap.size W cb v ns) (b:ns.length<=900)=>N3 W cb v ns x a b;have Y:Hid (ut ns l=l.args.foldl qq ns):=rfl;have R:=Px h;have Q:=K.size;have N:l.args.length<=900:=by unfold ka at L;omega
 have t:Hid (∀k,k<l.args.length->((l.args.take k).foldl qq ns).length<=900):=fun k T=>by
  have:=rZ (l.args.take k) ns;simp only[vU] at this;unfold ka at L;omega
 generalize l.args=j at *;go_enter func113,ntmps113;go_wp2;go_loopw [9] (fun O wr=>∃(k:Nat) (p:Value),k<=j.length/\O=.int .i64 k/\Hid (j0 c.heap.size wr cb p ((j.take k).foldl qq ns))/\Below c.heap.size c wr/\Hid (fW cb w wr)) (fun i _=>j.length-(intOf i).toNat)
 case atStart=>exact⟨0,v,zx _,rfl,R.out.below (by go_grown),K.alloc Q _,fW.of (by go_grown)⟩
 case round=>
  obtain⟨k,p,T,rfl,s,d,E⟩:=hrel;have I:=d.size;by_cases n:k<j.length
  ·obtain⟨g,rfl,U,m⟩:=hs.cell k n;have S:=zm d U m;have M:Hid ((j.take (k+1)).foldl qq ns=qq ((j.take k).foldl qq ns) j[k]):=by rw[Hid,yP n,js];rfl
   have q:=t.out k n;have u:Hid (∀a x,qq a x=if zO x then a else lm a x):=fun _ _=>rfl;generalize (j.take k).foldl qq ns=r at *;generalize j[k]=x at *;cases B:zO x with
   |true=>
    have H:Hid (∀W,Calls prog 156 #[.string x] W fun e f=>e=.returned (.bool true)/\f=W):=fun W=>by rw[←B];exact fC x W
    have C:Hid (qq r x=r):=by rw[Hid,u.out,B];rfl
    go_wp2_with (first|(go_at_call 156;refine(H.out _).mono ?_;rintro e f ⟨rfl,o⟩;obtain rfl:=o.symm))
    go_roundw
    case rel=>exact⟨k+1,p,by omega,by go_num,by rw[M.out,C.out];exact s.out,d,E⟩
    case measure=>simp[intOf];omega
   |false=>
    have H:Hid (∀W,Calls prog 156 #[.string x] W fun e f=>e=.returned (.bool false)/\f=W):=fun W=>by rw[←B];exact fC x W
    have C:Hid (qq r x=lm r x):=by rw[Hid,u.out,B];rfl
    go_wp2_with (first|(go_at_call 156;refine(H.out _).mono ?_;rintro e f ⟨rfl,o⟩;obtain rfl:=o.symm)|(go_at_call 157;refine(V.out wr p r x s.out q).mono ?_;intro e w2 A;obtain⟨rfl,P,z,F,y⟩:=A.next s.out d;have G:=Px (E.out.trans y);clear y;have D:=Px z;clear A z))
    go_roundw
    case rel=>exact⟨k+1,P,by omega,by go_num,by rw[M.out,C.out];exact D.out,F,G⟩
    case measure=>simp[intOf];omega
  ·rw[xi (by omega)] at s;go_wp2;go_end0
   exact⟨rfl,p,by rw[Y.out];exact s.out,d,E.out⟩
def AZ(cs:List zc):Prop:=ft cs<=900/\cs.length<=1000/\∀c∈cs,c.body.length<=1000
theorem Ff(w:World)(v:Value)(cs:List zc)(h:Qa lo 171 w v cs)(hf:AZ cs):
  Calls prog 72 #[v] w fun e w'=>∃s,e=.returned (.agg #[s])/\P7 w.heap.size w' s (zp cs)/\Below w.heap.size w w':=by
 obtain⟨ao,aC,rfl⟩:=h.qx;obtain⟨aK,aI,aa⟩:=hf;have HA:=Px fun(W:World) (v:Value) (ns:List ByteArray) (l:zj) (va:Value) (a:P7 lo w va l.args) (b:Below w.heap.size w W) (c:j0 w.heap.size W (w.heap.size+1) v ns) (d:ns.length+ka l<=900)=>Hd w W _ v ns l va a b c d;have HE:Hid (zp cs=cs.foldl vZ []):=rfl;have HH:=Px h;have E:Hid (∀k (hk:k<cs.length),((cs.take k).foldl vZ []).length+ka cs[k].head+gj cs[k].body<=900):=fun k hk=>by
  have:=Do (cs.take k) [];have:=JR cs k hk;simp only[kE] at *;omega
 have al:=(Py.new w #[.slice none 0 0] 141).below ((zo _ _).alloc (zf _) (.cells #[.slice none 0 0] 141));have T:=Py.new (w.alloc (.cells #[.slice none 0 0] 141)) #[.slice none 0 0] 141;have af:Below w.heap.size w ((w.alloc (.cells #[.slice none 0 0] 141)).alloc (.cells #[.slice none 0 0] 141)):=(by go_grown);simp only[World.size_alloc] at T;go_enter func72,ntmps72;go_wp2;generalize ((w.alloc (.cells #[.slice none 0 0] 141)).alloc (.cells #[.slice none 0 0] 141))=wA at *;go_loopw [10] (fun a2 wr=>∃(k:Nat) (s:Value),k<=cs.length/\a2=.int .i64 k/\Hid (j0 w.heap.size wr (w.heap.size+1) s ((cs.take k).foldl vZ []))/\Py wr w.heap.size #[.slice none 0 0] 141/\Below w.heap.size w wr) (fun i _=>cs.length-(intOf i).toNat)
 case atStart=>exact⟨0,_,zx _,rfl,⟨by omega,T,P7.nil _⟩,al,af⟩
 case round=>
  obtain⟨k,s,hk,rfl,O,p,f⟩:=hrel;have a7:=f.size;by_cases q:k<cs.length
  ·obtain⟨g,aw,F,ad,Q,B,X,q0,q1,q2,q3,aq,M⟩:=HH.out.cell k q;subst B;have au:=zm f X q0;have ar:=zm f X q1;have ag:=zm f X q2;have ac:=zm f X q3;have a9:g<wr.heap.size:=by omega
   have HS:Hid ((cs.take (k+1)).foldl vZ []=vZ ((cs.take k).foldl vZ []) cs[k]):=by rw[Hid,yP q,js];rfl
   have N:=E.out k q;have ah:=aa _ (zv q);have a1:Hid (∀a c,vZ a c=c.body.foldl ut (ut a c.head)):=fun _ _=>rfl;clear q0 q1 q2 q3;generalize (cs.take k).foldl vZ []=V at *;generalize cs[k]=c at *;have av:=Px fun W a b=>HA.out W s V c.head _ aq b a (by omega);have P:=(Py.new wr #[.bool c.head.neg,.string c.head.pred,.slice aw c.head.args.length F,.slice ad c.body.length Q] 171);go_upto_region 6 with (first|(go_at_call 113;refine(av.out _ (O.out.below (by go_grown)) (zP f (by go_grown) (zf _))).mono ?_;rintro e w2 ⟨rfl,v2,U,K,C⟩))
   have a6:=O.out.2.1.lt;have J:=C _ _ _ (by omega) (by decide) P;have R:=C _ _ _ (by omega) (by decide) (p.below zQ);obtain⟨Z,aj,ae⟩:=J.boxed;have aA:=K.size;have S:=Px U;have z:Hid ((ut V c.head).length+gj c.body<=900):=by
    have:=rZ c.head.args V;unfold ka at N;unfold Hid ut;omega
   clear C P U au ar ag ac;go_wp2;clear Z aj ae;obtain⟨m,A⟩:∃m,m=c.body:=⟨_,rfl⟩;have ai:=Px A;rw[←A] at M ah z ⊢;clear A;obtain⟨t,D⟩:∃t,t=ut V c.head:=⟨_,rfl⟩;have a3:=Px D;rw[←D] at S z;clear D;go_loopw [20] (fun ak wr=>∃(j:Nat) (s:Value),j<=m.length/\ak=.int .i64 j/\Hid (j0 w.heap.size wr (w.heap.size+1) s ((m.take j).foldl ut t))/\Py wr w.heap.size #[.slice none 0 0] 141/\Below w.heap.size w wr) (fun i _=>m.length-(intOf i).toNat)
   case atStart=>exact⟨0,_,zx _,rfl,S,R,K⟩
   case round=>
    obtain⟨j,v3,hj,rfl,x,r,n⟩:=hrel;have a8:=n.size;by_cases o:j<m.length
    ·obtain⟨gl,aD,a4,B,u,p0,p1,p2,ap⟩:=M.cell j o;subst B;have aL:=zm n u p0;have aF:=zm n u p1;have aM:=zm n u p2;have a5:gl<wr.heap.size:=by omega
     have am:Hid ((m.take (j+1)).foldl ut t=ut ((m.take j).foldl ut t) m[j]):=by rw[Hid,yP o,js];rfl
     have y:((m.take j).foldl ut t).length+ka m[j]<=900:=by
      have:=Dw (m.take j) t;have:=IG m j o;have:=z.out;omega
     clear p0 p1 p2;generalize (m.take j).foldl ut t=nj at *;generalize m[j]=l at *;have Y:=Px fun W a b=>HA.out W v3 nj l _ ap b a y;go_wp2_with (first|(go_at_call 113;refine(Y.out _ (x.out.below (by go_grown)) (zP n (by go_grown) (zf _))).mono ?_;rintro e w4 ⟨rfl,v4,I,ax,G⟩;have an:=Px I;have H:=G _ _ _ (by omega) (by decide) (r.below zQ);clear I G))
     go_roundw
     case rel=>exact⟨j+1,v4,by omega,by go_num,by rw[am.out];exact an.out,H,ax⟩
     case measure=>simp[intOf];omega
    ·rw[xi (by omega),ai.out] at x;have HQ:Hid (j0 w.heap.size wr (w.heap.size+1) v3 ((cs.take (k+1)).foldl vZ [])):=by rw[Hid,HS.out,a1.out,←a3.out];exact x.out
     go_wp2;go_roundw
     case rel=>exact⟨k+1,v3,by omega,by go_num,HQ,r,n⟩
     case measure=>simp[intOf];omega
  ·rw[xi (by omega)] at O;obtain⟨ab,L,rfl⟩:=O.out.2.2.qx;obtain⟨aH,az,a0⟩:=O.out;obtain⟨aG,aE,aN⟩:=az.boxed;obtain⟨ay,aB,aJ⟩:=p.boxed;go_wp2
   (try simp only[Exit.inBlock,Exit.then])
   exact zK (v:=.agg #[.slice ab (cs.foldl vZ []).length L]) (by simp[results,results72,go_sem,ay]) rfl ⟨_,rfl,by rw[HE.out];exact(a0.but ((PB.refl w.heap.size wr).setCell 0 _) p (by decide)),f.setCell (by simp) _⟩
end
section
variable {lo:Nat}
def RE(lo:Nat)(w:World)(a o:Nat)(ns:List ByteArray):Prop:=a<w.heap.size/\∃v,w.cell? ⟨a,o,none⟩=some v/\P7 lo w v ns
theorem RE.below{w d:World}{b o:Nat}{ns:List ByteArray}(h:RE lo w b o ns)(a:Below w.heap.size w d):RE lo d b o ns:=by
 obtain⟨c,v,e,f⟩:=h;exact⟨xG c a.size,v,(a.cell c).trans e,f.below a⟩
end
section
open Go.Proofs.Tryz
variable {lo:Nat}
def TG(B:Nat)(w:World)(tb o:Nat)(t:List zh):Prop:=∃a,tb<w.heap.size/\w.cell? ⟨tb,o,none⟩=some a/\w.ownsRow B 221 3 a t.length (xW t)
theorem TG.below{B:Nat}{w b:World}{tb o:Nat}{t:List zh}(h:TG B w tb o t)(a:Below w.heap.size w b):TG B b tb o t:=by
 obtain⟨e,d,f,c⟩:=h;exact⟨e,by have:=a.size;omega,(zm a d f),zC c a⟩
theorem TG.view{B:Nat}{w:World}{tb o:Nat}{t:List zh}(h:TG B w tb o t):∃b a,w.cell? ⟨tb,o,none⟩=some (.slice b t.length a)/\w.ownsRow B 221 3 (.slice b t.length a) t.length (xW t):=by
 obtain⟨e,_,d,c⟩:=h;obtain⟨b,a,rfl⟩:=zs c;exact⟨b,a,d,c⟩
theorem AC(B:Nat)(w:World)(tb o:Nat)(t:List zh)(n:ByteArray)(h:TG B w tb o t)(v:t.length<=1000):
  Calls prog 126 #[.pointer (some ⟨tb,o,none⟩),.string n] w fun e q=>e=.returned (.int .i64 (zV t n))/\q=w:=by
 obtain⟨x,p,s,d⟩:=h.view;go_enter func126,ntmps126;go_wp2;go_loop [5] (fun i=>∃k:Nat,k<=t.length/\i=.int .i64 k/\Hid (∀j (a:j<t.length),j<k->PS t[j].name n=true)) (fun i=>t.length-(intOf i).toNat)
 case atStart=>exact⟨0,zx _,rfl,fun j a h=>by omega⟩
 case round=>
  obtain⟨k,r,rfl,H⟩:=hrel;by_cases b:k<t.length
  ·obtain⟨g,rfl,u,_,m,_,_⟩:=ko d k b;cases f:PS t[k].name n with
   |true=>
    have c:Hid (∀j (a:j<t.length),j<k+1->PS t[j].name n=true):=fun j a h=>by
     rcases gD j k with l|l
     ·exact H.out j a l
     ·obtain rfl:j=k:=by omega
      exact f
    unfold PS at f;go_wp2;go_round
    case rel=>exact⟨k+1,by omega,by go_num,c⟩
    case measure=>simp[intOf];omega
   |false=>
    have c:=Px (CN t n k H.out b f);unfold PS at f;go_wp2;go_ret;exact⟨by rw[c.out];rfl,rfl⟩
  ·have c:Hid (zV t n=k):=by
    have:=Ch t n (fun j a=>H.out j a (by omega));unfold Hid;omega
   go_wp2;go_ret;exact⟨by rw[c.out];rfl,rfl⟩
theorem oV(B:Nat)(w:World)(tb o:Nat)(t:List zh)(n:ByteArray)(h:TG B w tb o t)(m:t.length<=1000)(i:yn t n=none):
  Calls prog 77 #[.pointer (some ⟨tb,o,none⟩),.string n] w fun e c=>e=.returned (.tuple #[.int .i64 0,.bool false])/\c=w:=by
 have f:=AC B w tb o t n h m;obtain⟨q,l,s,b⟩:=h.view;have a:=Px f;rcases rJ i with j|⟨j,d⟩
 ·clear i;go_enter func77,ntmps77;go_wp2_with (first|(go_at_call 126;refine a.out.mono ?_;rintro e c ⟨rfl,rfl⟩;clear a))
  go_ret2
  exact⟨rfl,rfl⟩
 ·obtain⟨g,rfl,p,_,k,_,_⟩:=ko b _ j;have r:=jp d;go_enter func77,ntmps77;go_wp2_with (first|(go_at_call 126;refine a.out.mono ?_;rintro e c ⟨rfl,rfl⟩;clear a))
  go_ret2
  exact⟨rfl,rfl⟩
theorem Ee(B:Nat)(w:World)(tb o:Nat)(t:List zh)(n:ByteArray)(q:zh)(h:TG B w tb o t)(p:t.length<=1000)(k:yn t n=some q):
  Calls prog 77 #[.pointer (some ⟨tb,o,none⟩),.string n] w fun e j=>e=.returned (.tuple #[.int .i64 (zV t n),.bool true])/\j=w:=by
 have f:=AC B w tb o t n h p;obtain⟨u,m,v,b⟩:=h.view;have a:=Px f;obtain⟨r,d,l⟩:=jJ k;obtain⟨g,rfl,s,_,c,_,i⟩:=ko b _ r;rw[d] at c i;go_enter func77,ntmps77;go_wp2_with (first|(go_at_call 126;refine a.out.mono ?_;rintro e j ⟨rfl,rfl⟩;clear a))
 go_ret2
 exact⟨rfl,rfl⟩
theorem LN(B:Nat)(w:World)(tb o:Nat)(t:List zh)(n:ByteArray)(h:TG B w tb o t)(c:t.length<=1000)(a:yn t n=none):
  Calls prog 159 #[.pointer (some ⟨tb,o,none⟩),.string n] w fun e d=>e=.returned (.tuple #[.int .i64 0,.bool false])/\d=w:=by
 have b:=Px (oV B w tb o t n h c a);clear h a c;go_enter func159,ntmps159;go_wp2_with (first|(go_at_call 77;refine b.out.mono ?_;rintro e d ⟨rfl,rfl⟩;clear b))
 go_ret2
 exact⟨rfl,rfl⟩
theorem Gc(B:Nat)(w:World)(tb o:Nat)(t:List zh)(n:ByteArray)(b:zh)(h:TG B w tb o t)(m:t.length<=1000)(c:yn t n=some b):
  Calls prog 159 #[.pointer (some ⟨tb,o,none⟩),.string n] w fun e f=>e=.returned (.tuple #[.int .i64 b.qh,.bool true])/\f=w:=by
 have d:=Px (Ee B w tb o t n b h m c);obtain⟨s,l,u,a⟩:=h.view;obtain⟨q,j,k⟩:=jJ c;obtain⟨g,rfl,r,_,i,_,p⟩:=ko a _ q;go_enter func159,ntmps159;go_wp2_with (first|(go_at_call 77;refine d.out.mono ?_;rintro e f ⟨rfl,rfl⟩;clear d))
 go_ret2
 exact⟨rfl,rfl⟩
def zM(t:List zh)(n:ByteArray):Nat:=if (yn t n).isSome then zV t n else 0
def x6(t:List zh)(n:ByteArray):Nat:=match yn t n with|some e=>e.qh|none=>0
theorem Hn(B:Nat)(w:World)(tb o:Nat)(t:List zh)(n:ByteArray)(h:TG B w tb o t)(b:t.length<=1000):
  Calls prog 77 #[.pointer (some ⟨tb,o,none⟩),.string n] w fun e c=>e=.returned (.tuple #[.int .i64 (zM t n:Nat),.bool (yn t n).isSome])/\c=w:=by
 unfold zM;cases a:yn t n with
 |none=>exact oV B w tb o t n h b a
 |some d=>exact Ee B w tb o t n d h b a
theorem Lr(B:Nat)(w:World)(tb o:Nat)(t:List zh)(n:ByteArray)(h:TG B w tb o t)(b:t.length<=1000):
  Calls prog 159 #[.pointer (some ⟨tb,o,none⟩),.string n] w fun e c=>e=.returned (.tuple #[.int .i64 (x6 t n:Nat),.bool (yn t n).isSome])/\c=w:=by
 unfold x6;cases a:yn t n with
 |none=>exact LN B w tb o t n h b a
 |some d=>exact Gc B w tb o t n d h b a
def uD(t:List zh)(i:Nat):Nat:=(t.map (·.jh)).getD i 0
theorem Ku(B:Nat)(w:World)(tb o:Nat)(t:List zh)(h:TG B w tb o t):
  Calls prog 115 #[.pointer (some ⟨tb,o,none⟩)] w fun e c=>e=.returned (.int .i64 t.length)/\c=w:=by
 obtain⟨d,b,f,a⟩:=h.view;clear h;go_enter func115,ntmps115;go_wp2;go_ret;exact⟨rfl,rfl⟩
theorem Ic(B:Nat)(w:World)(tb o:Nat)(t:List zh)(i:Nat)(h:TG B w tb o t):
  Calls prog 80 #[.pointer (some ⟨tb,o,none⟩),.int .i64 i] w fun e j=>e=.returned (.int .i64 (uD t i:Nat))/\j=w:=by
 obtain⟨l,d,m,a⟩:=h.view;by_cases b:i<t.length
 ·obtain⟨g,rfl,k,_,_,f,_⟩:=ko a i b;have c:Hid (uD t i=t[i].jh):=by simp[Hid,uD,b]
  go_enter func80,ntmps80;go_wp2;go_ret;exact⟨by rw[c.out];rfl,rfl⟩
 ·have c:Hid (uD t i=0):=by simp[Hid,uD,List.getD_eq_getElem?_getD,List.getElem?_eq_none (Nat.not_lt.1 b)]
  go_enter func80,ntmps80;go_wp2;go_ret;exact⟨by rw[c.out];rfl,rfl⟩
theorem Kc(w:World)(d:Nat)(f:Value)(vs:List ByteArray)(t:ByteArray)(q:w.cell? ⟨d,0,none⟩=some f)(hs:P7 lo w f vs)(p:vs.length<=1000):
  Calls prog 200 #[.pointer (some ⟨d,0,none⟩),.string t] w fun e m=>e=.returned (.tuple #[.int .i64 ((yp vs t).getD 0:Nat),.bool (yp vs t).isSome])/\m=w:=by
 obtain⟨r,j,rfl⟩:=hs.qx;go_enter func200,ntmps200;go_wp2;go_loop [13] (fun i=>∃k:Nat,k<=vs.length/\i=.int .i64 k/\Hid (yp vs t=(yp (vs.drop k) t).map (·+k))) (fun i=>vs.length-(intOf i).toNat)
 case atStart=>exact⟨0,zx _,rfl,by simp[Hid]⟩
 case round=>
  obtain⟨k,n,rfl,H⟩:=hrel;by_cases a:k<vs.length
  ·obtain⟨g,rfl,o,h⟩:=hs.cell k a;by_cases c:vs[k]=t
   ·have l:=kL c;have b:Hid (yp vs t=some k):=by rw[Hid,H.out,it a c];simp
    go_wp2;go_ret2
    exact⟨by rw[b.out];rfl,rfl⟩
   ·have l:=jp c;have b:Hid (yp vs t=(yp (vs.drop (k+1)) t).map (·+(k+1))):=by
     rw[Hid,H.out,wn a c];cases yp (vs.drop (k+1)) t<;>simp;omega
    go_wp2;go_round
    case rel=>exact⟨k+1,by omega,by go_num,b⟩
    case measure=>simp[intOf];omega
  ·have b:Hid (yp vs t=none):=by rw[Hid,H.out,ug (by omega)];rfl
   go_wp2;go_ret2
   exact⟨by rw[b.out];rfl,rfl⟩
theorem eh(w:World)(a:Nat)(b:Value)(vs:List ByteArray)(g:w.cell? ⟨a,0,none⟩=some b)(hs:P7 lo w b vs):
  Calls prog 146 #[.pointer (some ⟨a,0,none⟩)] w fun e d=>e=.returned (.int .i64 vs.length)/\d=w:=by
 obtain⟨f,c,rfl⟩:=hs.qx;go_enter func146,ntmps146;go_wp2;go_ret;exact⟨rfl,rfl⟩
end
section
variable {lo:Nat}{w:World}{v:Value}{o:Option (List Int)}
def jW(w:World)(v:Value)(o:Option (List Int)):Prop:=match o with
 |none=>v=.slice none 0 0
 |some l=>∃g f a,v=.slice (some ⟨g,f,none⟩) l.length a/\g<w.heap.size/\∀k (h:k<l.length),w.cell? ⟨g,f+k,none⟩=some (.int .i64 l[k])
theorem jW.below{c:World}(h:jW w v o)(b:Below w.heap.size w c):jW c v o:=by
 cases o with
 |none=>exact h
 |some l=>
  obtain⟨g,f,a,i,d,j⟩:=h;exact⟨g,f,a,i,by have:=b.size;omega,fun k e=>(b.cell (p:=⟨g,f+k,none⟩) d).trans (j k e)⟩
theorem jW.qx(h:jW w v o):∃b a,v=.slice b (o.getD []).length a:=by
 cases o with
 |none=>exact⟨none,0,h⟩
 |some l=>obtain⟨g,f,a,c,_⟩:=h;exact⟨_,a,c⟩
theorem jW.cell{w:World}{c:Option Addr}{n cap:Nat}{o:Option (List Int)}(h:jW w (.slice c n cap) o)(k:Nat)(b:k<(o.getD []).length):∃g f,c=some ⟨g,f,none⟩/\g<w.heap.size/\w.cell? ⟨g,f+k,none⟩=some (.int .i64 (o.getD [])[k]):=by
 cases o with
 |none=>simp at b
 |some l=>
  obtain⟨g,f,cap,a,d,e⟩:=h;simp only[Value.slice.injEq] at a;exact⟨g,f,a.1,d,e k b⟩
def gG(w:World)(v:Value)(os:Option (List (Option (List Int)))):Prop:=match os with
 |none=>v=.slice none 0 0
 |some l=>∃g f a,v=.slice (some ⟨g,f,none⟩) l.length a/\g<w.heap.size/\∀k (h:k<l.length),∃u,w.cell? ⟨g,f+k,none⟩=some u/\jW w u l[k]
theorem gG.below{w c:World}{v:Value}{os:Option (List (Option (List Int)))}(h:gG w v os)(a:Below w.heap.size w c):gG c v os:=by
 cases os with
 |none=>exact h
 |some l=>
  obtain⟨g,f,b,i,d,m⟩:=h;refine⟨g,f,b,i,by have:=a.size;omega,fun k n=>?_⟩;obtain⟨u,e,j⟩:=m k n;exact⟨u,(zm a d e),j.below a⟩
theorem gG.qx{os:Option (List (Option (List Int)))}(h:gG w v os):∃b a,v=.slice b (os.getD []).length a:=by
 cases os with
 |none=>exact⟨none,0,h⟩
 |some l=>obtain⟨g,f,a,c,_⟩:=h;exact⟨_,a,c⟩
theorem gG.cell{w:World}{c:Option Addr}{n cap:Nat}{os:Option (List (Option (List Int)))}(h:gG w (.slice c n cap) os)(k:Nat)(b:k<(os.getD []).length):∃g f u,c=some ⟨g,f,none⟩/\g<w.heap.size/\w.cell? ⟨g,f+k,none⟩=some u/\jW w u (os.getD [])[k]:=by
 cases os with
 |none=>simp at b
 |some l=>
  obtain⟨g,f,cap,a,d,j⟩:=h;simp only[Value.slice.injEq] at a;obtain⟨u,e,i⟩:=j k b;exact⟨g,f,u,a.1,d,e,i⟩
end
section
open Go.Proofs.Tryz
variable {lo:Nat}{l:List Int}{seen:List Bool}
def kJ(n:Nat):List Int->List Bool->Bool
 |[],_=>true
 |x::r,seen=>if x<0∨(n:Int)<=x∨5<=x then false else if seen.getD x.toNat false then false else kJ n r (seen.set x.toNat true)
def tI(l:List Int):Bool:=kJ l.length l [false,false,false,false,false]
theorem NC{n k:Nat}(a:k<l.length)(h:l[k]<0∨(n:Int)<=l[k]∨5<=l[k]):kJ n (l.drop k) seen=false:=by
 rw[xk a,kJ,zb h]
theorem Gn{n k:Nat}(a:k<l.length)(h:seen.getD l[k].toNat false=true):kJ n (l.drop k) seen=false:=by
 rw[xk a,kJ];split
 ·rfl
 ·simp
theorem GI{n k:Nat}(b:k<l.length)(h:¬(l[k]<0∨(n:Int)<=l[k]∨5<=l[k]))(a:seen.getD l[k].toNat false=false):kJ n (l.drop k) seen=kJ n (l.drop (k+1)) (seen.set l[k].toNat true):=by
 rw[xk b,kJ,za h,za (by rw[a];decide)]
theorem Fh(w:World)(v:Value)(l:List Int)(h:jW w v (some l))(Q:l.length<=2000000):
  Calls prog 155 #[v] w fun e B=>e=.returned (.bool (tI l))/\Below w.heap.size w B:=by
 obtain⟨g,f,K,rfl,H,s⟩:=h;have D:=Px s;go_enter func155,ntmps155;go_wp2;go_loopw [8] (fun E wr=>∃(k:Nat) (seen:List Bool),k<=l.length/\E=.int .i64 k/\seen.length=5/\Py wr w.heap.size (seen.map Value.bool).toArray 282/\Hid (tI l=kJ l.length (l.drop k) seen)/\Below w.heap.size w wr) (fun i _=>l.length-(intOf i).toNat)
 case atStart=>exact⟨0,[false,false,false,false,false],zx _,rfl,rfl,Py.new _ _ _,rfl,(by go_grown)⟩
 case round=>
  obtain⟨k,seen,O,rfl,o,m,j,a⟩:=hrel;have u:=a.size;by_cases c:k<l.length
  ·have G:=(a.cell (p:=⟨g,f+k,none⟩) H).trans (D.out k c);have r:Hid ((l[k]<0∨(l.length:Int)<=l[k]∨5<=l[k])->kJ l.length (l.drop k) seen=false):=fun h=>NC c h;have z:Hid (seen.getD l[k].toNat false=true->kJ l.length (l.drop k) seen=false):=fun h=>Gn c h;have t:=Px fun(h:¬(l[k]<0∨(l.length:Int)<=l[k]∨5<=l[k])) (F:seen.getD l[k].toNat false=false)=>GI c h F;generalize l[k]=x at *;by_cases A:x<0
   ·go_wp2;go_ret;exact⟨by rw[j.out,r.out (zg A)];rfl,a⟩
   ·obtain⟨n,rfl⟩:=Int.eq_ofNat_of_zero_le (Int.not_lt.1 A);by_cases J:(l.length:Int)<=(n:Int)
    ·go_wp2;go_ret;exact⟨by rw[j.out,r.out (ze (zg J))];rfl,a⟩
    ·by_cases L:(5:Int)<=(n:Int)
     ·go_wp2;go_ret;exact⟨by rw[j.out,r.out (ze (ze L))];rfl,a⟩
     ·have q:n<5:=by omega
      obtain⟨y,P⟩:=m.rules;have C:wr.cell? ⟨w.heap.size,n,none⟩=some (.bool (seen.getD n false)):=by
       rw[y];simp[o,q,List.getD_eq_getElem?_getD]
      have d:=m.set n (.bool true);have M:Hid (((seen.map Value.bool).toArray.setIfInBounds n (.bool true))=((seen.set n true).map Value.bool).toArray):=by simp[Hid,List.map_set]
      rw[M.out] at d;simp only[Int.toNat_natCast] at z t;clear y;generalize N:seen.getD n false=b at *;cases b with
      |true=>
       go_wp2;go_ret;exact⟨by rw[j.out,z.out (by trivial)];rfl,a⟩
      |false=>
       go_wp2;go_roundw
       case rel=>exact⟨k+1,seen.set n true,by omega,by go_num,by simpa using o,d,by rw[Hid,j.out,t.out (by omega) (by trivial)],a.setCell (by simp) _⟩
       case measure=>simp[intOf];omega
  ·have I:Hid (kJ l.length (l.drop k) seen=true):=by rw[ug (by omega)];rfl
   go_wp2;go_ret;exact⟨by rw[j.out,I.out];rfl,a⟩
def kU(c:zc):Option (List Int)->Bool
 |none=>true
 |some l=>l.length == (z7 c).length&&tI l
theorem LQ(w:World)(c:zc)(A D r:Value)(o:Option (List Int))(hs:P7 lo w A c.head.args)(H:PX lo w D c.body)(K:c.head.args.length+xf c.body<=1000)(x:c.body.length<=1000)(y:jW w r o)(q:(o.getD []).length<=2000000):
  Calls prog 112 #[.agg #[.bool c.head.neg,.string c.head.pred,A,D],r] w fun e F=>e=.returned (.bool (kU c o))/\Below w.heap.size w F:=by
 have B:=Px fun W p=>w9 W c _ _ (hs.below p) (H.below p) K x;cases o with
 |none=>
  have J:=y;subst J;have m:∀W:World,(binOp .eql 24 (.slice none 0 0) (.slice none 0 0)).run prog W=.ok (.bool true) W:=fun W=>by
   have:=run_equal_slice_nil W 24 3 none 0 0 underlying24;simp[binOp,this]
  go_enter func112,ntmps112;go_wp2;go_ret;exact⟨rfl,(by go_grown)⟩
 |some l=>
  have G:=Px fun W p=>Fh W r l (y.below p) q;have C:Hid (kU c (some l)=(l.length == (z7 c).length&&tI l)):=rfl;obtain⟨g,f,h,rfl,_,_⟩:=y;have m:∀W:World,(binOp .eql 24 (.slice (some ⟨g,f,none⟩) l.length h) (.slice none 0 0)).run prog W=.ok (.bool false) W:=fun W=>by
   have:=run_equal_slice_nil W 24 3 (some ⟨g,f,none⟩) l.length h underlying24;simp[binOp,this]
  generalize z7 c=vs at *;by_cases n:l.length=vs.length
  ·have s:((l.length:Int) != (vs.length:Int))=false:=by rw[n];simp
   have t:=Px n;clear n;go_enter func112,ntmps112;go_wp2_with (first|(go_at_call 148;refine(B.out _ (by exact(by go_grown))).mono ?_;rintro e u ⟨E,rfl,a,i⟩;obtain⟨z,k,rfl⟩:=zs a;have b:Below w.heap.size w u:=(zP (by go_grown) i (zf _));have d:=b.size)|(go_at_call 146;refine(eh _ _ _ vs (by exact(Py.new _ _ _).rules.1 0) (by exact zC a (by go_grown))).mono ?_;rintro e I ⟨rfl,j⟩;obtain rfl:=j.symm)|(go_at_call 155;refine(G.out _ (by exact(b.alloc d _))).mono ?_;rintro e L ⟨rfl,v⟩))
   go_ret;exact⟨by rw[C.out];simp[t.out],P3 (b.alloc d _) v⟩
  ·have s:((l.length:Int) != (vs.length:Int))=true:=by rw[bne_iff_ne];omega
   go_enter func112,ntmps112;go_wp2_with (first|(go_at_call 148;refine(B.out _ (by exact(by go_grown))).mono ?_;rintro e u ⟨E,rfl,a,i⟩;obtain⟨z,k,rfl⟩:=zs a;have b:Below w.heap.size w u:=(zP (by go_grown) i (zf _));have d:=b.size)|(go_at_call 146;refine(eh _ _ _ vs (by exact(Py.new _ _ _).rules.1 0) (by exact zC a (by go_grown))).mono ?_;rintro e I ⟨rfl,j⟩;obtain rfl:=j.symm))
   go_ret;exact⟨by rw[C.out];simp[n],b.alloc d _⟩
def fX(cs:List zc):Option (List (Option (List Int)))->Bool
 |none=>true
 |some l=>l.length == cs.length&&(cs.zip l).all fun x=>kU x.1 x.2
theorem IE(cs:List zc)(l:List (Option (List Int)))(h:l.length=cs.length)(k:Nat)(a:k<cs.length):((cs.drop k).zip (l.drop k)).all (fun x=>kU x.1 x.2)=(kU cs[k] (l[k]'(by omega))&&((cs.drop (k+1)).zip (l.drop (k+1))).all fun x=>kU x.1 x.2):=by
 rw[xk a,xk (l:=l) (i:=k) (by omega),List.zip_cons_cons,List.all_cons]
theorem GF(w:World)(cv ov:Value)(cs:List zc)(os:Option (List (Option (List Int))))(hc:Qa lo 171 w cv cs)(P:∀c∈cs,vH c)(hl:cs.length<=1000)(ho:gG w ov os)(Z:(os.getD []).length<=2000000)(A:∀o∈os.getD [],(o.getD []).length<=2000000):
  Calls prog 71 #[cv,ov] w fun e h=>e=.returned (.bool (fX cs os))/\Below w.heap.size w h:=by
 obtain⟨ai,ah,rfl⟩:=hc.qx;cases os with
 |none=>
  have h0:ov=.slice none 0 0:=ho;subst h0;have t:∀W:World,(binOp .eql 26 (.slice none 0 0) (.slice none 0 0)).run prog W=.ok (.bool true) W:=fun W=>by
   have:=run_equal_slice_nil W 26 24 none 0 0 underlying26;simp[binOp,this]
  go_enter func71,ntmps71;go_wp2;go_ret;exact⟨rfl,(by go_grown)⟩
 |some l=>
  simp only[ux] at Z A;have HO:=Px ho;have aa:=Px hc;have B:Hid (fX cs (some l)=(l.length == cs.length&&(cs.zip l).all fun x=>kU x.1 x.2)):=rfl;have ae:=Px A;have ab:=Px P;obtain⟨g,f,s,rfl,hg,_⟩:=ho;have t:∀W:World,(binOp .eql 26 (.slice (some ⟨g,f,none⟩) l.length s) (.slice none 0 0)).run prog W=.ok (.bool false) W:=fun W=>by
   have:=run_equal_slice_nil W 26 24 (some ⟨g,f,none⟩) l.length s underlying26;simp[binOp,this]
  clear hc A P;by_cases j:l.length=cs.length
  ·have E:((l.length:Int) != (cs.length:Int))=false:=by rw[j];simp
   have V:=Px j;have aj:l.length<=1000:=by omega
   have Y:Hid (fX cs (some l)=((cs.drop 0).zip (l.drop 0)).all fun x=>kU x.1 x.2):=by rw[Hid,B.out];simp[j]
   clear j B;go_enter func71,ntmps71;go_wp2;clear E t;go_loopw [16] (fun ad wr=>∃k:Nat,k<=cs.length/\ad=.int .i64 k/\Hid (fX cs (some l)=((cs.drop k).zip (l.drop k)).all fun x=>kU x.1 x.2)/\Below w.heap.size w wr) (fun i _=>cs.length-(intOf i).toNat)
   case atStart=>exact⟨0,zx _,rfl,Y,(by go_grown)⟩
   case round=>
    clear Y;obtain⟨k,hk,rfl,B,a⟩:=hrel;have af:=a.size;by_cases r:k<cs.length
    ·have O:k<l.length:=by rw[V.out];exact r
     obtain⟨g0,z,m,y,n,rfl,q,F,I,Q,G,M,C⟩:=aa.out.cell k r;obtain⟨T,N⟩:=ab.out cs[k] (zv r);obtain⟨_,_,u,J,_,hu,U⟩:=HO.out.cell k O;simp only[zr,Addr.mk.injEq,and_true] at J;obtain⟨rfl,rfl⟩:=J;have R:=ae.out l[k] (zv O);have S:=Px fun W hW=>LQ W cs[k] _ _ u l[k] (M.below hW) (C.below hW) T N (U.below hW) R;have L:Hid (((cs.drop k).zip (l.drop k)).all (fun x=>kU x.1 x.2)=(kU cs[k] l[k]&&((cs.drop (k+1)).zip (l.drop (k+1))).all fun x=>kU x.1 x.2)):=IE cs l V.out k r;have e0:=zm a q F;have e1:=zm a q I;have e2:=zm a q Q;have e3:=zm a q G;have eu:=zm a hg hu;have ag:g0<wr.heap.size:=by omega
     have H:g<wr.heap.size:=by omega
     clear F I Q G hu U M C T N R;generalize cs[k]=c at *;generalize kU c l[k]=b at *;have K:=Py.new wr #[.bool c.head.neg,.string c.head.pred,.slice z c.head.args.length m,.slice y c.body.length n] 171;cases b with
     |true=>
      go_wp2;go_region_held3 (fun h=>h.cell? ⟨wr.heap.size,0,none⟩=some (.bool c.head.neg)/\h.cell? ⟨wr.heap.size,1,none⟩=some (.string c.head.pred)/\h.cell? ⟨wr.heap.size,2,none⟩=some (.slice z c.head.args.length m)/\h.cell? ⟨wr.heap.size,3,none⟩=some (.slice y c.body.length n)/\h.cell? ⟨g,f+k,none⟩=some u) (first|go_keep|(go_split_ands;refine⟨?_,?_,?_,?_,?_⟩<;>go_keep)) (first|(go_at_call 112;refine(S.out _ (by exact(zP a (by go_grown) (zf _)))).mono ?_;rintro e w4 ⟨rfl,d⟩;have p:Below wr.heap.size wr w4:=(zP (by go_grown) d (zf _));have v:=K.below (by first|exact d|exact(zL (zo _ _) _).trans d);obtain⟨D,X⟩:=v.rules;have ac:=(zm p H eu)))
      go_wp2;go_roundw
      case rel=>exact⟨k+1,by omega,by go_num,by rw[Hid,B.out,L.out];simp,P3 a p⟩
      case measure=>simp[intOf];omega
     |false=>
      go_wp2;go_region_held3 (fun h=>h.cell? ⟨wr.heap.size,0,none⟩=some (.bool c.head.neg)/\h.cell? ⟨wr.heap.size,1,none⟩=some (.string c.head.pred)/\h.cell? ⟨wr.heap.size,2,none⟩=some (.slice z c.head.args.length m)/\h.cell? ⟨wr.heap.size,3,none⟩=some (.slice y c.body.length n)/\h.cell? ⟨g,f+k,none⟩=some u) (first|go_keep|(go_split_ands;refine⟨?_,?_,?_,?_,?_⟩<;>go_keep)) (first|(go_at_call 112;refine(S.out _ (by exact(zP a (by go_grown) (zf _)))).mono ?_;rintro e w4 ⟨rfl,d⟩;have p:Below wr.heap.size wr w4:=(zP (by go_grown) d (zf _));have v:=K.below (by first|exact d|exact(zL (zo _ _) _).trans d);obtain⟨D,X⟩:=v.rules;have ac:=(zm p H eu)))
      go_wp2;go_ret;exact⟨by rw[B.out,L.out];rfl,P3 a p⟩
    ·have HZ:Hid (fX cs (some l)=true):=by rw[Hid,B.out,ug (by omega)];rfl
     go_wp2;go_ret;exact⟨by rw[HZ.out];rfl,a⟩
  ·have E:((l.length:Int) != (cs.length:Int))=true:=by rw[bne_iff_ne];omega
   have Y:Hid (fX cs (some l)=false):=by rw[Hid,B.out];simp[j]
   go_enter func71,ntmps71;go_wp2;go_ret;exact⟨by rw[Y.out];rfl,(by go_grown)⟩
end
end Go.Proofs.YteampbddflhngaaGreat
