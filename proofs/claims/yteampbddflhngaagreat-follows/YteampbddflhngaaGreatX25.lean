import Derived.Test.YteampbddflhngaaGreatX05
import Derived.Test.YteampbddflhngaaGreatX18
import Derived.Test.YteampbddflhngaaGreatX20
import Derived.Test.YteampbddflhngaaGreatX21
namespace Go.Proofs.YteampbddflhngaaGreat
set_option linter.all false
set_option maxRecDepth 100000
set_option maxHeartbeats 4000000
section
open Go.Proofs.Tryz Go.RowKit
variable {lo:Nat}
def qI(a:List Nat)(x:Int×Nat):List Nat:=if 0<=x.1/\x.1<5 then a.set x.1.toNat x.2 else a
def yQ(os:List Int):List Nat:=os.zipIdx.foldl qI [0,1,2,3,4]
theorem NV(a:List Nat)(x:Int×Nat):(qI a x).length=a.length:=by unfold qI;split<;>simp
theorem eX(os:List Int):(yQ os).length=5:=by
 have:∀(l:List (Int×Nat)) (a:List Nat),(l.foldl qI a).length=a.length:=by
  intro l;induction l with
  |nil=>intro a;rfl
  |cons x l b=>intro a;rw[un,b,NV]
 exact this _ _
theorem MT{os:List Int}{k:Nat}(a:k<os.length):(os.take (k+1)).zipIdx.foldl qI [0,1,2,3,4]=qI ((os.take k).zipIdx.foldl qI [0,1,2,3,4]) (os[k],k):=by
 rw[yP a,List.zipIdx_append,js];simp only[List.zipIdx_singleton,vU,vF,un,List.foldl_nil];rw[dH (by omega)]
def jR(a:Value)(b:List Nat):List Value:=a::b.map Qb
theorem Aw(a:Value)(b:List Nat)(k x:Nat):(jR a b).toArray.setIfInBounds (1+k) (.int .i64 x)=(jR a (b.set k x)).toArray:=by
 rw[Nat.add_comm];simp[jR,List.map_set,Qb]
def lc(k:Nat):List Nat:=(List.range 5).map fun i=>if i<k then i else 0
theorem GQ(k:Nat)(a:k<5):(lc k).set k k=lc (k+1):=by
 obtain rfl|rfl|rfl|rfl|rfl:k=0∨k=1∨k=2∨k=3∨k=4:=by omega
 all_goals rfl
theorem C2{w:World}{a:Nat}{d:Value}{b:List Nat}(e:b.length=5)(h:Py w a (jR d b).toArray 257):a<w.heap.size/\(∀o,w.frozen? ⟨a,o,none⟩=false)/\∀k,k<5->∃x:Nat,w.cell? ⟨a,1+k,none⟩=some (.int .i64 (x:Nat)):=by
 obtain⟨g,c⟩:=h.rules;refine⟨h.lt,c,fun k f=>⟨b[k]'(by omega),?_⟩⟩;rw[g,Nat.add_comm];simp[jR,e,f,Qb]
def KU(w:World)(vs:List ByteArray)(c:List Nat)(e:Ending)(a:World):Prop:=∃b,e=.returned (.agg (jR b c).toArray)/\P7 w.heap.size a b vs/\Below w.heap.size w a
theorem F7(w:World)(c:zc)(va vb ov:Value)(o:Option (List Int))(hs:P7 lo w va c.head.args)(hb:PX lo w vb c.body)(hl:c.head.args.length+xf c.body<=1000)(H:c.body.length<=1000)(ho:jW w ov o)(aj:(o.getD []).length<=1000):
  Calls prog 158 #[.agg #[.bool c.head.neg,.string c.head.pred,va,vb],ov] w fun e w'=>KU w (z7 c) (yQ (o.getD [])) e w':=by
 obtain⟨ao,T,rfl⟩:=hs.qx;obtain⟨aa,G,rfl⟩:=hb.qx;obtain⟨ai,ae,rfl⟩:=ho.qx;have HP:=Px fun W hW=>w9 W c _ _ (hs.below hW) (hb.below hW) hl H;have HO:=Px ho;clear hs hb hl H ho;go_enter func158,ntmps158;go_upto_region 2 with (first|(go_at_call 148;refine(HP.out _ (by exact(by go_grown))).mono ?_;rintro e u ⟨D,rfl,z,E⟩;obtain⟨l,b,rfl⟩:=zs z))
 have F:Below w.heap.size w u:=zP (by go_grown) E (zf _);have ag:=F.size;have J:P7 w.heap.size u (.slice l (z7 c).length b) (z7 c):=yq z (by simp;omega);have A:=(Py.new (w.alloc (.cells #[.bool c.head.neg,.string c.head.pred,.slice ao c.head.args.length T,.slice aa c.body.length G] 171)) #[.slice none 0 0,.int .i64 0,.int .i64 0,.int .i64 0,.int .i64 0,.int .i64 0] 257).below E;rw[World.size_alloc] at A;have ak:=A.lt;have a:=Py.new u (jR (.slice l (z7 c).length b) (lc 0)).toArray 257;have t:Below u.heap.size u (u.alloc (.cells (jR (.slice l (z7 c).length b) (lc 0)).toArray 257)):=(by go_grown);have j:=J.below t;have h:=A.below t;have d:=P3 F t;rw[show(jR (.slice l (z7 c).length b) (lc 0)).toArray=#[.slice l (z7 c).length b,.int .i64 0,.int .i64 0,.int .i64 0,.int .i64 0,.int .i64 0] from rfl] at j h d;rw[show(u.alloc (.cells (jR (.slice l (z7 c).length b) (lc 0)).toArray 257))=(u.alloc (.cells #[.slice l (z7 c).length b,.int .i64 0,.int .i64 0,.int .i64 0,.int .i64 0,.int .i64 0] 257)) from rfl] at a;clear z E A J HP t;generalize M:z7 c=vs at *;have ab:=Px M;clear M;generalize B:Value.slice l vs.length b=D at *;generalize u.alloc (.cells #[D,.int .i64 0,.int .i64 0,.int .i64 0,.int .i64 0,.int .i64 0] 257)=w2 at *;generalize u.heap.size=sb at *;clear F u;have ac:=Px B;clear B;go_wp2;go_loopw [12] (fun U wr=>∃k:Nat,k<=5/\U=.int .i64 k/\Py wr sb (jR D (lc k)).toArray 257/\Py wr (w.heap.size+1) #[.slice none 0 0,.int .i64 0,.int .i64 0,.int .i64 0,.int .i64 0,.int .i64 0] 257/\P7 w.heap.size wr D vs/\Below w.heap.size w wr) (fun i _=>5-(intOf i).toNat)
 case atStart=>exact⟨0,by omega,rfl,a,h,j,d⟩
 case round=>
  clear a h j d;obtain⟨k,hk,rfl,a,h,j,d⟩:=hrel;have L:=d.size;by_cases s:k<5
  ·have ad:(k:Int)<5:=by omega
   obtain⟨K,N,r⟩:=C2 (by simp[lc]) a;obtain⟨x,hx⟩:=r k s;have m:=a.set (1+k) (.int .i64 k);rw[Aw,GQ k s] at m;clear r;go_wp2;go_roundw
   case rel=>exact⟨k+1,by omega,by go_num,m,h.set_ne (by omega) _ _,xK j ((PB.refl _ _).setCell _ _) a (by decide),d.setCell (by simp;omega) _⟩
   case measure=>simp[intOf];omega
  ·obtain rfl:k=5:=by omega
   clear hk s;have HF:Hid (lc 5=((o.getD []).take 0).zipIdx.foldl qI [0,1,2,3,4]):=rfl;rw[HF.out] at a;clear HF;go_wp2;go_loopw [22] (fun Y wr=>∃k:Nat,k<=(o.getD []).length/\Y=.int .i64 k/\Py wr sb (jR D (((o.getD []).take k).zipIdx.foldl qI [0,1,2,3,4])).toArray 257/\Py wr (w.heap.size+1) #[.slice none 0 0,.int .i64 0,.int .i64 0,.int .i64 0,.int .i64 0,.int .i64 0] 257/\P7 w.heap.size wr D vs/\Below w.heap.size w wr) (fun i _=>(o.getD []).length-(intOf i).toNat)
   case atStart=>exact⟨0,by omega,rfl,a,h,j,d⟩
   case round=>
    clear a h j d L;obtain⟨k,hk,rfl,a,h,j,d⟩:=hrel;have L:=d.size;have I:(((o.getD []).take k).zipIdx.foldl qI [0,1,2,3,4]).length=5:=eX _;by_cases s:k<(o.getD []).length
    ·obtain⟨g,f,rfl,hg,hc⟩:=HO.out.cell k s;have ah:=zm d hg hc;have t:g<wr.heap.size:=by omega
     have C:=Px (MT s);clear hc;generalize (o.getD [])[k]=x at *;generalize ((o.getD []).take k).zipIdx.foldl qI [0,1,2,3,4]=S at *;by_cases p:0<=x/\x<5
     ·obtain⟨n,rfl⟩:=Int.eq_ofNat_of_zero_le p.1;have am:=p.2;have hn:n<5:=by omega
      obtain⟨K,N,r⟩:=C2 I a;obtain⟨y,hy⟩:=r n hn;have m:=a.set (1+n) (.int .i64 k);rw[Aw] at m;have q:Hid (((o.getD []).take (k+1)).zipIdx.foldl qI [0,1,2,3,4]=S.set n k):=by rw[Hid,C.out,qI,zb p];rfl
      clear r C p;go_wp2;go_roundw
      case rel=>exact⟨k+1,by omega,by go_num,by rw[q.out];exact m,h.set_ne (by omega) _ _,xK j ((PB.refl _ _).setCell _ _) a (by decide),d.setCell (by simp;omega) _⟩
      case measure=>simp[intOf];omega
     ·have q:Hid (((o.getD []).take (k+1)).zipIdx.foldl qI [0,1,2,3,4]=S):=by rw[Hid,C.out,qI,za p]
      clear C;rcases Int.lt_or_le x 0 with h0|h0
      ·clear p;go_wp2;exact⟨⟨_,_,_,⟨k+1,by omega,by go_num,by rw[q.out];exact a⟩,rfl,rfl,rfl⟩,by simp[intOf];omega⟩
      ·have h5:5<=x:=by omega
       clear p;go_wp2;go_roundw
       case rel=>exact⟨k+1,by omega,by go_num,by rw[q.out];exact a,h,j,d⟩
       case measure=>simp[intOf];omega
    ·have O:Hid (((o.getD []).take k).zipIdx.foldl qI [0,1,2,3,4]=yQ (o.getD [])):=by rw[Hid,xi (by omega)];rfl
     rw[O.out] at a;have H5:=eX (o.getD []);generalize P:yQ (o.getD [])=S at *;obtain⟨p0,X,p2,R,V,rfl⟩:=five H5;have Z:=Px P;clear P;rw[show(jR D [p0,X,p2,R,V]).toArray=#[D,.int .i64 p0,.int .i64 X,.int .i64 p2,.int .i64 R,.int .i64 V] from rfl] at a;obtain⟨r,N,K⟩:=a.boxed;obtain⟨Q,af,al⟩:=h.boxed;have B:=ac.out;subst B;clear I H5 O;go_wp2
     (try simp only[Exit.inBlock,Exit.then])
     refine zK (v:=.agg (jR (.slice l vs.length b) [p0,X,p2,R,V]).toArray) (by simp[results,results158,go_sem,Q,jR,Qb]) rfl ⟨_,by rw[Z.out],?_,?_⟩
     ·rw[ab.out];exact xK j (by repeat'(first|with_reducible(first|apply xR|assumption|apply xN|apply xA|apply xD|apply xS|apply xT)|go_size)) h (by decide)
     ·exact(((((d.setCell (by simp) _).setCell (by simp) _).setCell (by simp) _).setCell (by simp) _).setCell (by simp) _).setCell (by simp) _
def uw(os:Option (List (Option (List Int))))(k:Nat):Option (List Int):=(os.getD []).getD k none
theorem II(w:World)(c:Value)(os:Option (List (Option (List Int))))(k:Nat)(h:gG w c os)(d:(os.getD []).length<=2000000):
  Calls prog 116 #[c,.int .i64 k] w fun e m=>∃u,e=.returned u/\jW w u (uw os k)/\m=w:=by
 obtain⟨o,j,rfl⟩:=h.qx;by_cases b:k<(os.getD []).length
 ·obtain⟨g,f,u,rfl,n,p,l⟩:=h.cell k b;have a:Hid (uw os k=(os.getD [])[k]):=by simp[Hid,uw,b]
  have i:=Px l;go_enter func116,ntmps116;go_wp2;go_ret;exact⟨_,rfl,by rw[a.out];exact i.out,rfl⟩
 ·have a:Hid (uw os k=none):=by simp[Hid,uw,List.getD_eq_getElem?_getD,List.getElem?_eq_none (Nat.not_lt.1 b)]
  go_enter func116,ntmps116;go_wp2;go_ret;exact⟨_,rfl,by rw[a.out];rfl,rfl⟩
def vx(t:List zh)(ns:List ByteArray)(c:zc):qP:=⟨zM t c.head.pred,zF (zI t ns [] [0,0,0,0,0] c.head) [0,0,0,0,0]⟩
def A5(f:qP):Value:=.agg #[.int .i64 f.pred,.int .i64 (f.row.getD 0 0:Nat),.int .i64 (f.row.getD 1 0:Nat),.int .i64 (f.row.getD 2 0:Nat)]
theorem EU{u:Nat}(w:World)(H tb o V:Nat)(t:List zh)(ns:List ByteArray)(c:zc)(R Y:Value)(h:lR lo w H tb o V t ns)(hs:P7 u w R c.head.args)(S:PX u w Y c.body)(G:c.head.args.length<=1000):
  Calls prog 118 #[.pointer (some ⟨H,0,none⟩),.agg #[.bool c.head.neg,.string c.head.pred,R,Y]] w fun e n=>e=.returned (A5 (vx t ns c))/\Below w.heap.size w n:=by
 obtain⟨P,E,rfl⟩:=hs.qx;obtain⟨s,i,rfl⟩:=S.qx;have N:=Px fun W sb (Z:Below w.heap.size w W) (b:kQ 0 W sb [] [0,0,0,0,0])=>DH W H tb o V sb t ns [] [0,0,0,0,0] c.head _ (h.below Z) b (by simp) (by simp) (hs.below Z) G;have HR:Hid (∀W v (b0:Nat),yh b0 W v (zI t ns [] [0,0,0,0,0] c.head).qg->Calls prog 161 #[.agg #[.int .i64 (zM t c.head.pred:Nat),v],rp 0 0 0 0 0] W fun r n=>r=.returned (.agg #[.int .i64 (((vx t ns c).row.getD 0 0:Nat):Int),.int .i64 (((vx t ns c).row.getD 1 0:Nat):Int),.int .i64 (((vx t ns c).row.getD 2 0:Nat):Int)])/\Below W.heap.size W n):=fun W v b0 p=>tX W v (zM t c.head.pred) _ 0 0 0 0 0 p;have HE:Hid (A5 (vx t ns c)=.agg #[.int .i64 (zM t c.head.pred:Nat),.int .i64 ((vx t ns c).row.getD 0 0:Nat),.int .i64 ((vx t ns c).row.getD 1 0:Nat),.int .i64 ((vx t ns c).row.getD 2 0:Nat)]):=rfl;clear h hs S;have b:=Py.new ((w.alloc (.cells #[.bool c.head.neg,.string c.head.pred,.slice P c.head.args.length E,.slice s c.body.length i] 171)).alloc (.cells #[.int .i64 0,.int .i64 0,.int .i64 0,.int .i64 0] 210)) #[.slice none 0 0,.int .i64 0,.int .i64 0,.int .i64 0,.int .i64 0,.int .i64 0] 257;have j:=(Py.new (w.alloc (.cells #[.bool c.head.neg,.string c.head.pred,.slice P c.head.args.length E,.slice s c.body.length i] 171)) #[.int .i64 0,.int .i64 0,.int .i64 0,.int .i64 0] 210).below ((zo _ _).alloc (zf _) (.cells #[.slice none 0 0,.int .i64 0,.int .i64 0,.int .i64 0,.int .i64 0,.int .i64 0] 257));simp only[World.size_alloc] at b j;generalize (vx t ns c).row.getD 0 0=x at *;generalize (vx t ns c).row.getD 1 0=y at *;generalize (vx t ns c).row.getD 2 0=z at *;generalize (zI t ns [] [0,0,0,0,0] c.head).qg=F at *;generalize zM t c.head.pred=q at *;go_enter func118,ntmps118;go_upto_region 3 with (first|(go_at_call 160;refine(N.out _ _ (by exact(by go_grown)) (by exact⟨_,0,0,0,0,0,rfl,b,P7.nil _⟩)).mono ?_;rintro e g ⟨tv,rfl,p,k⟩;obtain⟨f,a,rfl⟩:=p.qx))
 have B:Below w.heap.size w g:=zP (by go_grown) k (zf _);have l:=j.below k;clear b j N;have ae:=l.lt;have d:Below g.heap.size g (g.alloc (.cells #[.int .i64 q,.slice f F.length a] 204)):=(by go_grown);have D:=Py.new g #[.int .i64 q,.slice f F.length a] 204;have K:=l.below d;have L:Hid (yh _ _ _ F):=p.below d;have C:=P3 B d;clear p l k d;generalize g.alloc (.cells #[.int .i64 q,.slice f F.length a] 204)=U at *;generalize g.heap.size=T at *;clear B g;obtain⟨O,ad,ab⟩:=D.boxed;have af:=C.size;go_region_held3 (fun n=>n.cell? ⟨T,0,none⟩=some (.int .i64 q)/\n.cell? ⟨T,1,none⟩=some (.slice f F.length a)) (first|go_keep|(go_simp;done)) (first|(go_at_call 161;refine(HR.out _ _ _ (by exact L.out.below (by go_grown))).mono ?_;rintro e w3 ⟨rfl,I⟩;have m:Below U.heap.size U w3:=(zP (by go_grown) I (zf _));have M:=D.below m;have J:=K.below m;obtain⟨Q,aa⟩:=M.rules;obtain⟨A,ac,X⟩:=J.boxed))
 all_goals
  go_wp2
  (try simp only[Exit.inBlock,Exit.then])
  exact zK (v:=.agg #[.int .i64 q,.int .i64 x,.int .i64 y,.int .i64 z]) (by simp[results,results118,go_sem,A]) rfl ⟨by rw[HE.out],((((P3 C m).setCell (by simp) _).setCell (by simp) _).setCell (by simp) _).setCell (by simp) _⟩
end
section
open Go.Proofs.Tryz Go.RowKit
variable {lo:Nat}{w0 w:World}{rb rr sb st va hp:Nat}{htv plv nlv v':Value}{ht:List ya}{pls nls:List zt}{vs:List ByteArray}{pl:List Nat}
theorem OR:(prog.info? 204).map (fun i=>(i.zero,i.size,i.bytes))=some (some (.agg #[.int .i64 0,.slice none 0 0]),2,32):=by kernel_rfl
def uY(t:List zh)(ns:List ByteArray)(c:zc)(o:Option (List Int)):zq:=
 {qh:=x6 t c.head.pred,vars:=(z7 c).length,head:=zI t ns (z7 c) (yQ (o.getD [])) c.head,qc:=(c.body.filter fun l=>!l.neg).map (zI t ns (z7 c) (yQ (o.getD []))),qp:=(c.body.filter fun l=>l.neg).map (zI t ns (z7 c) (yQ (o.getD [])))}
theorem KM(ps:List (Nat×Value))(x:Nat×Value):g7 (ps++[x])=g7 ps++[.int .i64 (x.1:Nat),x.2]:=by simp[g7]
structure kr (B:Nat) (w0 w:World) (rb rr sb st va hp:Nat) (htv plv nlv:Value) (ht:List ya) (pls nls:List zt) (vs:List ByteArray) (pl:List Nat):Prop where
 box:Py w rb #[.int .i64 st,.int .i64 va,.int .i64 hp,htv,plv,nlv] 207
 res:Py w rr #[.int .i64 0,.int .i64 0,.int .i64 0,.slice none 0 0,.slice none 0 0,.slice none 0 0] 207
 scope:kQ B w sb vs pl
 head:yh B w htv ht
 pln:xY B w plv pls
 nln:xY B w nlv nls
 apart:∀b,plv.ownBlock=some b->nlv.ownBlock≠some b
 below:Below B w0 w
 low:B<=rb/\B<=rr/\rb≠rr
theorem kr.next{B:Nat}{b:World}(h:kr B w0 w rb rr sb st va hp htv plv nlv ht pls nls vs pl)(a:Below w.heap.size w b)(c:B<=w0.heap.size):kr B w0 b rb rr sb st va hp htv plv nlv ht pls nls vs pl:=
 ⟨h.box.below a,h.res.below a,h.scope.below a,h.head.below a,h.pln.below a,h.nln.below a,h.apart,zP h.below a c,h.low⟩
theorem kQ.saveT{b:Nat}{w c:World}{sb:Nat}{vs:List ByteArray}{pl:List Nat}{T:TypeId}{M:List Nat}(h:kQ b w sb vs pl)(hs:zd M w c)(a:PN w T M)(l:257≠T)(d:9≠T):kQ b c sb vs pl:=by
 obtain⟨k,e,g,m,f,o,n,i,j⟩:=h;exact⟨k,e,g,m,f,o,n,i.saveT hs a l,yB j hs a d⟩
theorem xY.push{e:Nat}{i:World}{v:Value}{c:List zt}{ps:List (Nat×Value)}{l:zt}{tv:Value}(j:w.ownsRow e 204 2 v c.length (g7 ps))(g:ps.length=c.length)(h:∀k (j:k<c.length) (g:k<ps.length),ps[k].1=c[k].pred/\yh e w ps[k].2 c[k].qg/\c[k].pred<=1000000)(p:c.length+1<=1000)(n:yh e w tv l.qg)(hp:l.pred<=1000000)
  (o:i.ownsRow e 204 2 v' (c.length+1) (g7 ps++[.int .i64 l.pred,tv])) (hs:zd v.ownBlock.toList w i):xY e i v' (c++[l]):=by
 have m:=PN.own j;refine⟨ps++[(l.pred,tv)],by rw[KM,yv];exact o,by simp[g],by simpa using p,fun k a b=>?_⟩;by_cases f:k<c.length
 ·have d:k<ps.length:=by omega
  rw[uQ f,uQ d];exact⟨(h k f d).1,(h k f d).2.1.saveT hs m (by decide),(h k f d).2.2⟩
 ·obtain rfl:k=c.length:=by simp at a;omega
  simp only[←g,p6];exact⟨trivial,n.saveT hs m (by decide),hp⟩
theorem kr.pushP{B:Nat}{l:World}{d:List zt}(h:kr B w0 w rb rr sb st va hp htv plv nlv ht pls nls vs pl)(hs:zd plv.ownBlock.toList w l)(m:v'.ownBlock=plv.ownBlock∨∃g,v'.ownBlock=some g/\w.heap.size<=g)(y:xY B l v' d)(r:B<=w.heap.size):kr B w0 (l.setCell ⟨rb,4,none⟩ v') rb rr sb st va hp htv v' nlv ht d nls vs pl:=by
 obtain⟨z,o,_⟩:=h.pln;have k:=PN.own o;have j:=h.box.saveT hs k (by decide);have c:=PN.box j;have a:zd [rb] l (l.setCell ⟨rb,4,none⟩ v'):=zd.set _ _ _ _;have v:=j.set 4 v';have n:=h.nln.saveT hs k (by decide) fun b f p=>h.apart b (yw p) f;refine⟨by simpa using v,(h.res.saveT hs k (by decide)).set_ne (Ne.symm h.low.2.2) _ _,(h.scope.saveT hs k (by decide) (by decide)).saveT a c (by decide) (by decide),(h.head.saveT hs k (by decide)).saveT a c (by decide),y.saveTT a c (by decide) (by decide),n.saveTT a c (by decide) (by decide),fun b f i=>?_,?_,h.low⟩
 ·obtain⟨s,t,_⟩:=h.nln;have u:=yU t i;rcases m with e|⟨g,e,A⟩
  ·rw[e] at f;exact h.apart b f i
  ·rw[e] at f;simp only[zr] at f;omega
 ·exact(h.below.trans (hs.below (fun x q=>xb o (yw q)) r)).setCell h.low.1 _
theorem kr.pushN{B:Nat}{k:World}{f:List zt}(h:kr B w0 w rb rr sb st va hp htv plv nlv ht pls nls vs pl)(hs:zd nlv.ownBlock.toList w k)(m:v'.ownBlock=nlv.ownBlock∨∃g,v'.ownBlock=some g/\w.heap.size<=g)(y:xY B k v' f)(r:B<=w.heap.size):kr B w0 (k.setCell ⟨rb,5,none⟩ v') rb rr sb st va hp htv plv v' ht pls f vs pl:=by
 obtain⟨z,o,_⟩:=h.nln;have j:=PN.own o;have i:=h.box.saveT hs j (by decide);have d:=PN.box i;have a:zd [rb] k (k.setCell ⟨rb,5,none⟩ v'):=zd.set _ _ _ _;have v:=i.set 5 v';have n:=h.pln.saveT hs j (by decide) fun b l p=>h.apart b l (yw p);refine⟨by simpa using v,(h.res.saveT hs j (by decide)).set_ne (Ne.symm h.low.2.2) _ _,(h.scope.saveT hs j (by decide) (by decide)).saveT a d (by decide) (by decide),(h.head.saveT hs j (by decide)).saveT a d (by decide),n.saveTT a d (by decide) (by decide),y.saveTT a d (by decide) (by decide),fun b l c=>?_,?_,h.low⟩
 ·obtain⟨s,t,_⟩:=h.pln;have u:=yU t l;rcases m with e|⟨g,e,A⟩
  ·rw[e] at c;exact h.apart b l c
  ·rw[e] at c;simp only[zr] at c;omega
 ·exact(h.below.trans (hs.below (fun x q=>xb o (yw q)) r)).setCell h.low.1 _
theorem iG{α:Type}(p:α->Bool)(l:List α)(k:Nat)(a:k<l.length):(l.take (k+1)).filter p=(l.take k).filter p++(if p l[k] then [l[k]] else []):=by
 rw[yP a,ra];congr 1;cases h:p l[k]<;>simp[h]
theorem Ao(t:List zh)(n:ByteArray):zM t n<=t.length:=by
 unfold zM;split
 ·exact et t n
 ·omega
theorem J8(os:List Int)(h:os.length<=1000):∀y∈yQ os,y<=1000:=by
 have:∀(l:List (Int×Nat)) (pl:List Nat),(∀x∈l,x.2<=1000)->(∀y∈pl,y<=1000)->∀y∈l.foldl qI pl,y<=1000:=by
  intro l;induction l with
  |nil=>intro pl _ h;exact h
  |cons x l e=>
   intro pl c b;refine e _ (fun y a=>c y (nO _ a)) fun y a=>?_;unfold qI at a;split at a
   ·rcases nY a with q|q
    ·exact b y q
    ·subst q;exact c x (by simp)
   ·exact b y a
 refine this _ _ (fun x d=>?_) (by decide);have:=List.snd_lt_of_mem_zipIdx d;omega
def Hz(w:World)(r:zq)(e:Ending)(c:World):Prop:=∃b a d,e=.returned (kz r b a d)/\uU w.heap.size c b a d r/\Below w.heap.size w c
theorem GG{ai:Nat}(w:World)(mb tb o cb:Nat)(t:List zh)(ns:List ByteArray)(c:zc)(va vb ov:Value)(O:Option (List Int))(h:lR lo w mb tb o cb t ns)(hs:P7 ai w va c.head.args)(hb:PX ai w vb c.body)(hl:c.head.args.length+xf c.body<=1000)(cj:c.body.length<=900)(ho:jW w ov O)(b0:(O.getD []).length<=1000)(bV:x6 t c.head.pred<=1000000):
  Calls prog 117 #[.pointer (some ⟨mb,0,none⟩),.agg #[.bool c.head.neg,.string c.head.pred,va,vb],ov] w fun e Q=>Hz w (uY t ns c O) e Q:=by
 obtain⟨i0,hi,bv,bq,bg⟩:=info_parts OR;obtain⟨ao,aK,rfl⟩:=hs.qx;obtain⟨aR,aa,rfl⟩:=hb.qx;obtain⟨bR,bB,rfl⟩:=ho.qx;have bh:=Px fun W I=>F7 W c _ _ _ O (hs.below I) (hb.below I) hl (by omega) (ho.below I) b0;have bA:=t7 c.body [];have bS:(z7 c).length<=1000:=by unfold z7;simp at bA;omega
 clear bA;have aS:Hid (∀W sb (l:zj) (va:Value) (b1 b2:Nat),Below w.heap.size w W->kQ b1 W sb (z7 c) (yQ (O.getD []))->P7 b2 W va l.args->l.args.length<=1000->Calls prog 160 #[.pointer (some ⟨mb,0,none⟩),.agg #[.bool l.neg,.string l.pred,va],.pointer (some ⟨sb,0,none⟩)] W fun e Q=>∃tv,e=.returned (.agg #[.int .i64 (zM t l.pred:Nat),tv])/\yh W.heap.size Q tv (zI t ns (z7 c) (yQ (O.getD [])) l).qg/\Below W.heap.size W Q):=fun W sb l va b1 b2 I bO bN bK=>DH W mb tb o cb sb t ns _ _ l _ (h.below I) bO bS (J8 _ b0) bN bK;have br:=Px fun W I=>Lr lo W tb o t c.head.pred (h.2.1.below I) h.2.2.2.1;have b5:=Px h.2.2.2.1;have bI:=h.1;obtain⟨bE,cn,bU⟩:=bI.boxed;have bH:w.cell? ⟨mb,0,none⟩=some (.pointer (some ⟨tb,o,none⟩)):=by rw[bE];rfl
 have bX:=Px hs;have bM:=Px hb;have HE:Hid (uY t ns c O={qh:=x6 t c.head.pred,vars:=(z7 c).length,head:=zI t ns (z7 c) (yQ (O.getD [])) c.head,qc:=(c.body.filter fun l=>!l.neg).map (zI t ns (z7 c) (yQ (O.getD []))),qp:=(c.body.filter fun l=>l.neg).map (zI t ns (z7 c) (yQ (O.getD [])))}):=rfl;have H5:Hid ((yQ (O.getD [])).length=5):=eX _;clear h hs hb ho bE;generalize z7 c=vs at *;generalize yQ (O.getD [])=pl at *;generalize x6 t c.head.pred=st at *;generalize (yn t c.head.pred).isSome=ci at *;obtain⟨n,j,m,d,f,rfl⟩:=five H5.out;have aD:Hid (∀W,Below w.heap.size w W->Calls prog 158 #[.agg #[.bool c.head.neg,.string c.head.pred,.slice ao c.head.args.length aK,.slice aR c.body.length aa],.slice bR (O.getD []).length bB] W fun e Q=>∃nv,e=.returned (.agg #[nv,.int .i64 n,.int .i64 j,.int .i64 m,.int .i64 d,.int .i64 f])/\P7 W.heap.size Q nv vs/\Below W.heap.size W Q):=bh;clear bh H5;go_enter func117,ntmps117;go_upto_region 2 with (first|(go_at_call 158;refine(aD.out _ (by exact(by go_grown))).mono ?_;rintro e w1 ⟨nv,rfl,aT,aw⟩;obtain⟨aM,ae,rfl⟩:=aT.qx))
 have bC:Below w.heap.size w w1:=zP (by go_grown) aw (zf _);have a4:=((Py.new w #[.bool c.head.neg,.string c.head.pred,.slice ao c.head.args.length aK,.slice aR c.body.length aa] 171).below ((zo _ _).alloc (zf _) (.cells #[.int .i64 0,.int .i64 0,.int .i64 0,.slice none 0 0,.slice none 0 0,.slice none 0 0] 207))).below aw;have M:=(Py.new (w.alloc (.cells #[.bool c.head.neg,.string c.head.pred,.slice ao c.head.args.length aK,.slice aR c.body.length aa] 171)) #[.int .i64 0,.int .i64 0,.int .i64 0,.slice none 0 0,.slice none 0 0,.slice none 0 0] 207).below aw;rw[World.size_alloc] at M;have a2:=aT.low (show w.heap.size<=_ by simp;omega);have u:Below w1.heap.size w1 (w1.alloc (.cells #[.slice aM vs.length ae,.int .i64 n,.int .i64 j,.int .i64 m,.int .i64 d,.int .i64 f] 257)):=(by go_grown);have a5:=Py.new w1 #[.slice aM vs.length ae,.int .i64 n,.int .i64 j,.int .i64 m,.int .i64 d,.int .i64 f] 257;have Z:=a4.below u;have az:=M.below u;have aE:=a2.below u;have p:=P3 bC u;have ch:=M.lt;clear a4 M a2 aT aw u;generalize w1.alloc (.cells #[.slice aM vs.length ae,.int .i64 n,.int .i64 j,.int .i64 m,.int .i64 d,.int .i64 f] 257)=V at *;generalize w1.heap.size=sb at *;clear bC w1;obtain⟨X,ag,D⟩:=Z.boxed;have bL:=zm p bU bH;have aH:=p.size;have bn:mb<V.heap.size:=by omega
 go_quiet ((go_at_call 159;exact Calls.quiet_of_same (br.out _ (by exact(zL p _)))))
 clear aD br bL X ag D aH bn;have hq:Below V.heap.size V (V.drewN nq):=zL (zo _ _) nq;have a6:=Z.below hq;have a3:=az.below hq;have al:=aE.below hq;have N:=a5.below hq;have aL:=P3 p hq;clear hq Z az aE a5 p;generalize V.drewN nq=w3 at *;clear V nq;have ck:=aL.size;obtain⟨a9,aZ,b3⟩:=N.boxed;go_upto_region 4 with (first|(go_at_call 146;refine(eh _ _ _ vs (by rw[a9];rfl) al).mono ?_;rintro e w4 ⟨rfl,bZ⟩;obtain rfl:=bZ.symm))
 clear a9 aZ b3;have u:Below w3.heap.size w3 (w3.alloc (.cells #[.int .i64 st,.int .i64 vs.length,.int .i64 0,.slice none 0 0,.slice none 0 0,.slice none 0 0] 207)):=(by go_grown);have aA:=Py.new w3 #[.int .i64 st,.int .i64 vs.length,.int .i64 0,.slice none 0 0,.slice none 0 0,.slice none 0 0] 207;have aq:=a6.below u;have aB:=a3.below u;have a8:=al.below u;have a1:=N.below u;have am:=P3 aL u;have cc:=N.lt;clear a6 a3 al N u;generalize w3.alloc (.cells #[.int .i64 st,.int .i64 vs.length,.int .i64 0,.slice none 0 0,.slice none 0 0,.slice none 0 0] 207)=w4 at *;generalize w3.heap.size=rb at *;clear aL w3;have bd:=am.size;obtain⟨X,ag,D⟩:=aq.boxed;have au:Hid (kQ w.heap.size w4 sb vs [n,j,m,d,f]):=⟨_,n,j,m,d,f,rfl,a1,a8⟩;go_upto_region 5 with (first|(go_at_call 160;refine(aS.out _ _ c.head _ _ _ (by exact am) (by exact au.out) (by exact bX.out.below am) (by omega)).mono ?_;rintro e w5 ⟨tv,rfl,aj,S⟩;obtain⟨C,s,rfl⟩:=aj.qx;have L:=aA.below S;obtain⟨bk,bm,bz⟩:=L.boxed))
 have b4:yh w.heap.size w5 _ _:=⟨yq aj.own bd,aj.len,aj.num⟩;have an:rb≠w.heap.size+1:=by omega
 have hM:kr w.heap.size w ((w5.setCell ⟨rb,2,none⟩ (.int .i64 (zM t c.head.pred:Nat))).setCell ⟨rb,3,none⟩ (.slice C (zI t ns vs [n,j,m,d,f] c.head).qg.length s)) rb (w.heap.size+1) sb st vs.length (zM t c.head.pred) (.slice C (zI t ns vs [n,j,m,d,f] c.head).qg.length s) (.slice none 0 0) (.slice none 0 0) (zI t ns vs [n,j,m,d,f] c.head).qg [] [] vs [n,j,m,d,f]:=by
  have bs:zd [rb] w5 ((w5.setCell ⟨rb,2,none⟩ (.int .i64 (zM t c.head.pred:Nat))).setCell ⟨rb,3,none⟩ (.slice C (zI t ns vs [n,j,m,d,f] c.head).qg.length s)):=(zd.set _ _ _ _).trans (zd.set _ _ _ _);have bw:=PN.box L;have hq:=(L.set 2 (.int .i64 (zM t c.head.pred:Nat))).set 3 (.slice C (zI t ns vs [n,j,m,d,f] c.head).qg.length s);refine⟨by simpa using hq,((aB.below S).set_ne (Ne.symm an) _ _).set_ne (Ne.symm an) _ _,(au.out.below S).saveT bs bw (by decide) (by decide),b4.saveT bs bw (by decide),⟨[],yI _ _ _ _,rfl,by simp,fun k a=>by simp at a⟩,⟨[],yI _ _ _ _,rfl,by simp,fun k a=>by simp at a⟩,fun b hb=>by simp[Value.ownBlock] at hb,((P3 am S).setCell (by simp;omega) _).setCell (by simp;omega) _,by omega,by omega,an⟩
 have ay:=((aq.below S).set_ne (show w.heap.size≠rb by omega) 2 (.int .i64 (zM t c.head.pred:Nat))).set_ne (show w.heap.size≠rb by omega) 3 (.slice C (zI t ns vs [n,j,m,d,f] c.head).qg.length s);generalize (w5.setCell ⟨rb,2,none⟩ (.int .i64 (zM t c.head.pred:Nat))).setCell ⟨rb,3,none⟩ (.slice C (zI t ns vs [n,j,m,d,f] c.head).qg.length s)=w6 at *;clear L bk bm bz aj b4 S w5 X ag D au bd am aq aB a8 a1 aA w4;generalize ax:Value.slice C (zI t ns vs [n,j,m,d,f] c.head).qg.length s=htv at *;have bP:=Px ax;clear ax;obtain⟨X,ag,D⟩:=ay.boxed;go_wp2;clear X ag D ay;have z:Hid (kr _ _ _ _ _ _ _ _ _ _ _ _ _ _ _ _ _):=hM;clear hM;go_loopw [40] (fun bT wr=>∃(k:Nat) (plv nlv:Value),k<=c.body.length/\bT=.int .i64 k/\Hid (kr w.heap.size w wr rb (w.heap.size+1) sb st vs.length (zM t c.head.pred) htv plv nlv (zI t ns vs [n,j,m,d,f] c.head).qg (((c.body.take k).filter fun l=>!l.neg).map (zI t ns vs [n,j,m,d,f])) (((c.body.take k).filter fun l=>l.neg).map (zI t ns vs [n,j,m,d,f])) vs [n,j,m,d,f])) (fun i _=>c.body.length-(intOf i).toNat)
 case atStart=>exact⟨0,_,_,zx _,rfl,z⟩
 case round=>
  clear z;obtain⟨k,plv,nlv,hk,rfl,z⟩:=hrel;have B:=z.out.below;have ce:=B.size;by_cases ak:k<c.body.length
  ·obtain⟨g,R,y,bY,hg,b6,bb,bD,b9⟩:=bM.out.cell k ak;subst bY;have bf:c.body[k].args.length<=1000:=by
    have:=ru c.body k ak;rw[yr ak] at this;simp at this;omega
   have bx:=zm B hg b6;have cm:=zm B hg bb;have cl:=zm B hg bD;have u:g<wr.heap.size:=by omega
   have U:=iG (fun l:zj=>!l.neg) c.body k ak;have T:=iG (fun l:zj=>l.neg) c.body k ak;have bi:Hid (P7 ai w _ _):=b9;have bQ:=Ao t c.body[k].pred;have bW:=b5.out;clear b6 bb bD b9;generalize c.body[k]=l at *;have ca:(((c.body.take k).filter fun l=>!l.neg).map (zI t ns vs [n,j,m,d,f])).length<=k:=by
    have:=nE (fun l:zj=>!l.neg) (c.body.take k);simp at this ⊢;omega
   have cg:(((c.body.take k).filter fun l=>l.neg).map (zI t ns vs [n,j,m,d,f])).length<=k:=by
    have:=nE (fun l:zj=>l.neg) (c.body.take k);simp at this ⊢;omega
   cases hn:l.neg with
   |false=>
    rw[hn] at bx;simp only[hn,Bool.not_false,if_true,gx,if_false,qE] at U T;have aW:Hid (((c.body.take (k+1)).filter fun l=>!l.neg).map (zI t ns vs [n,j,m,d,f])=((c.body.take k).filter fun l=>!l.neg).map (zI t ns vs [n,j,m,d,f])++[zI t ns vs [n,j,m,d,f] l]):=by rw[Hid,U,vC];rfl
    have aU:Hid (((c.body.take (k+1)).filter fun l=>l.neg).map (zI t ns vs [n,j,m,d,f])=((c.body.take k).filter fun l=>l.neg).map (zI t ns vs [n,j,m,d,f])):=by rw[Hid,T]
    clear U T;generalize ((c.body.take k).filter fun l=>!l.neg).map (zI t ns vs [n,j,m,d,f])=pls at *;generalize ((c.body.take k).filter fun l=>l.neg).map (zI t ns vs [n,j,m,d,f])=nls at *;have aG:Hid (∀W,Below wr.heap.size wr W->Calls prog 160 #[.pointer (some ⟨mb,0,none⟩),.agg #[.bool false,.string l.pred,.slice R l.args.length y],.pointer (some ⟨sb,0,none⟩)] W fun e Q=>∃tv,e=.returned (.agg #[.int .i64 (zM t l.pred:Nat),tv])/\yh W.heap.size Q tv (zI t ns vs [n,j,m,d,f] l).qg/\Below W.heap.size W Q):=fun W I=>by
     have q:=aS.out W sb l (.slice R l.args.length y) w.heap.size ai (P3 B I) (z.out.scope.below I) (bi.out.below (P3 B I)) bf;rw[hn] at q;exact q
    generalize ad:(zI t ns vs [n,j,m,d,f] l).qg=ts at *;have aY:=Px ad;have Y:Hid ((zI t ns vs [n,j,m,d,f] l).pred=zM t l.pred):=rfl;clear ad;generalize zM t l.pred=fn at *;obtain⟨ps,G,E,_,F⟩:=z.out.pln;obtain⟨P,x,ar⟩:=zs G;subst ar;have J:=Px F;clear F;have b8:pls.length<=900:=by omega
    have ac:=Px E;clear E;go_wp2_with (first|(go_at_call 160;refine(aG.out _ (by exact(by go_grown))).mono ?_;rintro e V ⟨tv,rfl,A,ah⟩;obtain⟨aJ,ap,rfl⟩:=A.qx;have p:Below wr.heap.size wr V:=(zP (by go_grown) ah (zf _));have aP:=(Py.new wr #[.bool false,.string l.pred,.slice R l.args.length y] 90).below ah;obtain⟨bt,b7,bo⟩:=aP.boxed;have K:=z.out.box.below p;obtain⟨a0,aC,aF⟩:=K.boxed;have aH:=p.size;have r:=zC G p)|(at_builtin;refine dO V _ [.int .i64 fn,.slice aJ ts.length ap] _ rfl (.tmp 56) (.tmp 58) 205 rfl w.heap.size 204 i0 _ 2 32 underlying205 hi bv bq bg rfl (by decide) (.slice P pls.length x) pls.length (g7 ps) rfl r (by exact(by go_grown)) _ _ rfl (by simp) rfl (by simp[Value.oneCell']) (by omega) (by omega) (by omega) ?_;intro v' w3 ab H av;obtain⟨bG,bu,rfl⟩:=zs ab;have af:=K.saveT H (PN.own r) (by decide);obtain⟨aQ,aN,aX⟩:=af.boxed))
    have aV:kr _ _ _ _ _ _ _ _ _ _ _ _ _ _ _ _ _:=(z.out.next p (zf _)).pushP H av (xY.push (l:=zI t ns vs [n,j,m,d,f] l) r ac.out (fun k a b=>⟨(J.out k a b).1,(J.out k a b).2.1.below p,(J.out k a b).2.2⟩) (by omega) (by rw[aY.out];exact⟨yq A.own (by simp;omega),A.len,A.num⟩) (by rw[Y.out];omega) (by rw[Y.out];exact ab) H) (by omega);go_roundw
    case rel=>exact⟨k+1,_,_,by omega,by go_num,by rw[aW.out,aU.out];exact aV⟩
    case measure=>simp[intOf];omega
   |true=>
    rw[hn] at bx;simp only[hn,mj,if_true,gx,if_false,qE] at U T;have aW:Hid (((c.body.take (k+1)).filter fun l=>!l.neg).map (zI t ns vs [n,j,m,d,f])=((c.body.take k).filter fun l=>!l.neg).map (zI t ns vs [n,j,m,d,f]) ):=by rw[Hid,U]
    have aU:Hid (((c.body.take (k+1)).filter fun l=>l.neg).map (zI t ns vs [n,j,m,d,f])=((c.body.take k).filter fun l=>l.neg).map (zI t ns vs [n,j,m,d,f])++[zI t ns vs [n,j,m,d,f] l]):=by rw[Hid,T,vC];rfl
    clear U T;generalize ((c.body.take k).filter fun l=>!l.neg).map (zI t ns vs [n,j,m,d,f])=pls at *;generalize ((c.body.take k).filter fun l=>l.neg).map (zI t ns vs [n,j,m,d,f])=nls at *;have aG:Hid (∀W,Below wr.heap.size wr W->Calls prog 160 #[.pointer (some ⟨mb,0,none⟩),.agg #[.bool true,.string l.pred,.slice R l.args.length y],.pointer (some ⟨sb,0,none⟩)] W fun e Q=>∃tv,e=.returned (.agg #[.int .i64 (zM t l.pred:Nat),tv])/\yh W.heap.size Q tv (zI t ns vs [n,j,m,d,f] l).qg/\Below W.heap.size W Q):=fun W I=>by
     have q:=aS.out W sb l (.slice R l.args.length y) w.heap.size ai (P3 B I) (z.out.scope.below I) (bi.out.below (P3 B I)) bf;rw[hn] at q;exact q
    generalize ad:(zI t ns vs [n,j,m,d,f] l).qg=ts at *;have aY:=Px ad;have Y:Hid ((zI t ns vs [n,j,m,d,f] l).pred=zM t l.pred):=rfl;clear ad;generalize zM t l.pred=fn at *;obtain⟨ps,G,E,_,F⟩:=z.out.nln;obtain⟨P,x,ar⟩:=zs G;subst ar;have J:=Px F;clear F;have b8:nls.length<=900:=by omega
    have ac:=Px E;clear E;go_wp2_with (first|(go_at_call 160;refine(aG.out _ (by exact(by go_grown))).mono ?_;rintro e V ⟨tv,rfl,A,ah⟩;obtain⟨aJ,ap,rfl⟩:=A.qx;have p:Below wr.heap.size wr V:=(zP (by go_grown) ah (zf _));have aP:=(Py.new wr #[.bool true,.string l.pred,.slice R l.args.length y] 90).below ah;obtain⟨bt,b7,bo⟩:=aP.boxed;have K:=z.out.box.below p;obtain⟨a0,aC,aF⟩:=K.boxed;have aH:=p.size;have r:=zC G p)|(at_builtin;refine dO V _ [.int .i64 fn,.slice aJ ts.length ap] _ rfl (.tmp 50) (.tmp 52) 205 rfl w.heap.size 204 i0 _ 2 32 underlying205 hi bv bq bg rfl (by decide) (.slice P nls.length x) nls.length (g7 ps) rfl r (by exact(by go_grown)) _ _ rfl (by simp) rfl (by simp[Value.oneCell']) (by omega) (by omega) (by omega) ?_;intro v' w3 ab H av;obtain⟨bG,bu,rfl⟩:=zs ab;have af:=K.saveT H (PN.own r) (by decide);obtain⟨aQ,aN,aX⟩:=af.boxed))
    have aV:kr _ _ _ _ _ _ _ _ _ _ _ _ _ _ _ _ _:=(z.out.next p (zf _)).pushN H av (xY.push (l:=zI t ns vs [n,j,m,d,f] l) r ac.out (fun k a b=>⟨(J.out k a b).1,(J.out k a b).2.1.below p,(J.out k a b).2.2⟩) (by omega) (by rw[aY.out];exact⟨yq A.own (by simp;omega),A.len,A.num⟩) (by rw[Y.out];omega) (by rw[Y.out];exact ab) H) (by omega);go_roundw
    case rel=>exact⟨k+1,_,_,by omega,by go_num,by rw[aU.out,aW.out];exact aV⟩
    case measure=>simp[intOf];omega
  ·have ba:k=c.body.length:=by omega
   have bF:Hid (c.body.take k=c.body):=by rw[Hid,ba,vf]
   rw[bF.out] at z;have K:=z.out.box;have be:=z.out.res;obtain⟨a0,aC,aF⟩:=K.boxed;obtain⟨bp,cf,cd⟩:=be.boxed;have ax:=bP.out;subst ax;obtain⟨P,x,ar⟩:=zs z.out.pln.choose_spec.1;obtain⟨bc,a7,bJ⟩:=zs z.out.nln.choose_spec.1;subst ar;subst bJ;clear ba;generalize (c.body.filter fun l=>!l.neg).map (zI t ns vs [n,j,m,d,f])=pls at *;generalize (c.body.filter fun l=>l.neg).map (zI t ns vs [n,j,m,d,f])=nls at *;go_wp2
   (try simp only[Exit.inBlock,Exit.then])
   refine zK (v:=.agg #[.int .i64 st,.int .i64 vs.length,.int .i64 (zM t c.head.pred:Nat),.slice C (zI t ns vs [n,j,m,d,f] c.head).qg.length s,.slice P pls.length x,.slice bc nls.length a7]) (by simp[results,results117,go_sem,bp]) rfl ⟨_,_,_,by rw[HE.out];rfl,?_,?_⟩
   ·have aO:zd [w.heap.size+1] wr ((((((wr.setCell ⟨w.heap.size+1,0,none⟩ (.int .i64 st)).setCell ⟨w.heap.size+1,1,none⟩ (.int .i64 vs.length)).setCell ⟨w.heap.size+1,2,none⟩ (.int .i64 (zM t c.head.pred:Nat))).setCell ⟨w.heap.size+1,3,none⟩ (.slice C (zI t ns vs [n,j,m,d,f] c.head).qg.length s)).setCell ⟨w.heap.size+1,4,none⟩ (.slice P pls.length x)).setCell ⟨w.heap.size+1,5,none⟩ (.slice bc nls.length a7)):=(((((zd.set _ _ _ _).trans (zd.set _ _ _ _)).trans (zd.set _ _ _ _)).trans (zd.set _ _ _ _)).trans (zd.set _ _ _ _)).trans (zd.set _ _ _ _);have aI:=PN.box be;have bQ:=Ao t c.head.pred;have bW:=b5.out;rw[HE.out];exact⟨z.out.head.saveT aO aI (by decide),z.out.pln.saveTT aO aI (by decide) (by decide),z.out.nln.saveTT aO aI (by decide) (by decide),bV,by simp only;omega,by show zM t c.head.pred<=1000000;omega⟩
   ·exact(((((B.setCell (by simp) _).setCell (by simp) _).setCell (by simp) _).setCell (by simp) _).setCell (by simp) _).setCell (by simp) _
end
section
open Go.Proofs.Tryz Go.RowKit
variable {lo:Nat}{w w0:World}{v' mv1 mv2 av fv rv:Value}{rs:List zq}{ps:List (Value×Value×Value)}{sb sr mb wd:Nat}{xs:List Nat}
theorem OW:(prog.info? 210).map (fun i=>(i.zero,i.size,i.bytes))=some (some (.agg #[.int .i64 0,.int .i64 0,.int .i64 0,.int .i64 0]),4,32):=by kernel_rfl
theorem Pt:(prog.info? 207).map (fun i=>(i.zero,i.size,i.bytes))=some (some (.agg #[.int .i64 0,.int .i64 0,.int .i64 0,.slice none 0 0,.slice none 0 0,.slice none 0 0]),6,96):=by kernel_rfl
def pX(f:qP):List Value:=[.int .i64 f.pred,.int .i64 (f.row.getD 0 0:Nat),.int .i64 (f.row.getD 1 0:Nat),.int .i64 (f.row.getD 2 0:Nat)]
def ky(fs:List qP):List Value:=fs.flatMap pX
def nT(r:zq)(p:Value×Value×Value):List Value:=[.int .i64 r.qh,.int .i64 r.vars,.int .i64 r.head.pred,p.1,p.2.1,p.2.2]
def kC(rs:List zq)(ps:List (Value×Value×Value)):List Value:=(List.zipWith nT rs ps).flatten
theorem Ix(fs:List qP)(f:qP):ky (fs++[f])=ky fs++pX f:=by simp[ky]
theorem Jz(rs:List zq)(ps:List (Value×Value×Value))(r:zq)(p:Value×Value×Value)(h:ps.length=rs.length):kC (rs++[r]) (ps++[p])=kC rs ps++nT r p:=by
 unfold kC;rw[eD h.symm];simp
def p5(lo:Nat)(w:World)(v:Value)(fs:List qP):Prop:=w.ownsRow lo 210 4 v fs.length (ky fs)
structure qa (lo:Nat) (w:World) (v:Value) (rs:List zq) (ps:List (Value×Value×Value)):Prop where
 own:w.ownsRow lo 207 6 v rs.length (kC rs ps)
 len:ps.length=rs.length
 rule:∀k (_:k<rs.length) (_:k<ps.length),uU lo w ps[k].1 ps[k].2.1 ps[k].2.2 rs[k]
 few:rs.length<=1000
theorem qa.below{w c:World}{v:Value}{rs:List zq}{ps:List (Value×Value×Value)}(h:qa lo w v rs ps)(d:Below w.heap.size w c):qa lo c v rs ps:=⟨zC h.own d,h.len,fun k a b=>(h.rule k a b).below d,h.few⟩
theorem qa.saveT{f:Nat}{w g:World}{v:Value}{rs:List zq}{ps:List (Value×Value×Value)}{T:TypeId}{M:List Nat}(h:qa f w v rs ps)(hs:zd M w g)(e:PN w T M)(i:284≠T)(d:204≠T)(c:207≠T):qa f g v rs ps:=⟨yB h.own hs e c,h.len,fun k a b=>(h.rule k a b).saveT hs e i d,h.few⟩
theorem qa.push{d:Nat}{e:World}{v:Value}{r:zq}{p:Value×Value×Value}(h:qa d w v rs ps)(m:rs.length+1<=1000)(j:uU d w p.1 p.2.1 p.2.2 r)(l:e.ownsRow d 207 6 v' (rs.length+1) (kC rs ps++nT r p))(hs:zd v.ownBlock.toList w e):qa d e v' (rs++[r]) (ps++[p]):=by
 have g:=PN.own h.own;refine⟨by rw[Jz _ _ _ _ h.len,yv];exact l,by simp[h.len],fun k a b=>?_,by simpa using m⟩;by_cases f:k<rs.length
 ·have c:k<ps.length:=by have:=h.len;omega
  rw[uQ f,uQ c];exact(h.rule k f c).saveT hs g (by decide) (by decide)
 ·obtain rfl:k=rs.length:=by simp at a;omega
  have i:=h.len;simp only[←i,p6];exact j.saveT hs g (by decide) (by decide)
theorem qa.cell{w:World}{j:Option Addr}{n cap:Nat}{rs:List zq}{ps:List (Value×Value×Value)}(h:qa lo w (.slice j n cap) rs ps)(k:Nat)(z:k<rs.length)(e:k<ps.length):∃g,j=some ⟨g,0,none⟩/\g<w.heap.size/\w.cell? ⟨g,k*6,none⟩=some (.int .i64 (rs[k].qh:Nat))/\w.cell? ⟨g,k*6+1,none⟩=some (.int .i64 (rs[k].vars:Nat))/\w.cell? ⟨g,k*6+2,none⟩=some (.int .i64 (rs[k].head.pred:Nat))/\w.cell? ⟨g,k*6+3,none⟩=some ps[k].1/\w.cell? ⟨g,k*6+4,none⟩=some ps[k].2.1/\w.cell? ⟨g,k*6+5,none⟩=some ps[k].2.2:=by
 obtain⟨g,i,f,_,q,b⟩:=yC h.own (by omega);simp at f;have d:∀(rs:List zq) (ps:List (Value×Value×Value)) (k:Nat) (a:k<rs.length) (c:k<ps.length),(kC rs ps)[k*6]?=some (.int .i64 (rs[k].qh:Nat))/\(kC rs ps)[k*6+1]?=some (.int .i64 (rs[k].vars:Nat))/\(kC rs ps)[k*6+2]?=some (.int .i64 (rs[k].head.pred:Nat))/\(kC rs ps)[k*6+3]?=some ps[k].1/\(kC rs ps)[k*6+4]?=some ps[k].2.1/\(kC rs ps)[k*6+5]?=some ps[k].2.2:=by
  intro rs;induction rs with
  |nil=>intro ps k a;simp at a
  |cons r l x=>
   intro ps k a c;match ps,k,a,c with
   |p::ps,0,_,_=>simp[kC,nT]
   |p::ps,k+1,a,c=>
    have:=x ps k (by simpa using a) (by simpa using c);simp only[kC,lr,lM] at this ⊢;rw[show(k+1)*6=k*6+6 from by omega];have y:k*6+6=(nT r p).length+k*6:=by simp[nT];omega
    rw[y];simp only[Nat.add_assoc,gU (Nat.le_add_right _ _),rU];simpa using this
 obtain⟨s,v,t,u,o,m⟩:=d rs ps k z e;exact⟨g,f.1,q,b _ _ s,b _ _ v,b _ _ t,b _ _ u,b _ _ o,b _ _ m⟩
theorem AE:∀(fs:List qP) (k:Nat) (h:k<fs.length),(ky fs)[k*4]?=some (.int .i64 (fs[k].pred:Nat))/\(ky fs)[k*4+1]?=some (.int .i64 (fs[k].row.getD 0 0:Nat))/\(ky fs)[k*4+2]?=some (.int .i64 (fs[k].row.getD 1 0:Nat))/\(ky fs)[k*4+3]?=some (.int .i64 (fs[k].row.getD 2 0:Nat))
 |[],k,h=>by simp at h
 |f::l,0,_=>by simp[ky,pX]
 |f::l,k+1,h=>by
  have:=AE l k (by simpa using h);simp only[ky,uo] at this ⊢;rw[show(k+1)*4=k*4+4 from by omega];have a:k*4+4=(pX f).length+k*4:=by simp[pX];omega
  rw[a];simp only[Nat.add_assoc,gU (Nat.le_add_right _ _),rU];simpa using this
def uZ(t:List zh)(ns:List ByteArray)(os:Option (List (Option (List Int))))(cs:List zc):List zq:=cs.zipIdx.filterMap fun x=>if x.1.body.length>0 then some (uY t ns x.1 (uw os x.2)) else none
def vJ(t:List zh)(ns:List ByteArray)(cs:List zc):List qP:=(cs.filter fun c=>!decide (c.body.length>0)).map (vx t ns)
def vS(t:List zh)(ns:List ByteArray)(os:Option (List (Option (List Int))))(cs:List zc):qJ:={qf:=ns.length,qj:=t.map (·.jh),facts:=vJ t ns cs,rules:=uZ t ns os cs}
theorem Kv(t:List zh)(ns:List ByteArray)(os:Option (List (Option (List Int))))(cs:List zc)(k:Nat)(a:k<cs.length):uZ t ns os (cs.take (k+1))=uZ t ns os (cs.take k)++(if cs[k].body.length>0 then [uY t ns cs[k] (uw os k)] else []):=by
 unfold uZ;rw[yP a,List.zipIdx_append,rF];congr 1;simp only[List.zipIdx_singleton,vU,vF,pW,List.filterMap_nil];rw[dH (by omega)];by_cases h:cs[k].body.length>0
 ·rw[zb h,zb h]
 ·rw[za h,za h]
theorem Ot(t:List zh)(ns:List ByteArray)(cs:List zc)(k:Nat)(a:k<cs.length):vJ t ns (cs.take (k+1))=vJ t ns (cs.take k)++(if cs[k].body.length>0 then [] else [vx t ns cs[k]]):=by
 unfold vJ;rw[iG _ _ _ a,vC];congr 1;by_cases h:cs[k].body.length>0
 ·simp[h]
 ·simp[h]
theorem Hw(t:List zh)(ns:List ByteArray)(os:Option (List (Option (List Int))))(cs:List zc):(uZ t ns os cs).length<=cs.length:=by
 have:=p4 (fun x:zc×Nat=>if x.1.body.length>0 then some (uY t ns x.1 (uw os x.2)) else none) cs.zipIdx;simpa [uZ] using this
theorem On(t:List zh)(ns:List ByteArray)(cs:List zc):(vJ t ns cs).length<=cs.length:=by
 unfold vJ;rw[uJ];exact nE _ _
structure jO (B:Nat) (w0 w:World) (sb sr mb:Nat) (mv1 mv2 av fv rv:Value) (wd:Nat) (xs:List Nat) (fs:List qP) (rs:List zq) (ps:List (Value×Value×Value)):Prop where
 box:Py w sb #[.int .i64 wd,av,fv,rv] 146
 res:Py w sr #[.int .i64 0,.slice none 0 0,.slice none 0 0,.slice none 0 0] 146
 mak:Py w mb #[mv1,mv2] 200
 ari:w.ownsRow B 3 1 av xs.length (xs.map Qb)
 fac:p5 B w fv fs
 rul:qa B w rv rs ps
 below:Below B w0 w
 low:B<=sb/\B<=sr/\sb≠sr
theorem jO.next{B:Nat}{b:World}{fs:List qP}(h:jO B w0 w sb sr mb mv1 mv2 av fv rv wd xs fs rs ps)(a:Below w.heap.size w b)(c:B<=w0.heap.size):jO B w0 b sb sr mb mv1 mv2 av fv rv wd xs fs rs ps:=
 ⟨h.box.below a,h.res.below a,h.mak.below a,zC h.ari a,zC h.fac a,h.rul.below a,zP h.below a c,h.low⟩
theorem jO.pushF{B:Nat}{f:World}{fs e:List qP}(h:jO B w0 w sb sr mb mv1 mv2 av fv rv wd xs fs rs ps)(hs:zd fv.ownBlock.toList w f)(g:p5 B f v' e)(j:B<=w.heap.size):jO B w0 (f.setCell ⟨sb,2,none⟩ v') sb sr mb mv1 mv2 av v' rv wd xs e rs ps:=by
 have d:=PN.own h.fac;have c:=h.box.saveT hs d (by decide);have b:=PN.box c;have a:zd [sb] f (f.setCell ⟨sb,2,none⟩ v'):=zd.set _ _ _ _;have k:=c.set 2 v';exact⟨by simpa using k,(h.res.saveT hs d (by decide)).set_ne (Ne.symm h.low.2.2) _ _,(h.mak.saveT hs d (by decide)).saveT a b (by decide),yB (yB h.ari hs d (by decide)) a b (by decide),yB g a b (by decide),(h.rul.saveT hs d (by decide) (by decide) (by decide)).saveT a b (by decide) (by decide) (by decide),(h.below.trans (hs.below (fun x i=>xb h.fac (yw i)) j)).setCell h.low.1 _,h.low⟩
theorem jO.pushR{B:Nat}{g:World}{fs:List qP}{e:List zq}{d:List (Value×Value×Value)}(h:jO B w0 w sb sr mb mv1 mv2 av fv rv wd xs fs rs ps)(hs:zd rv.ownBlock.toList w g)(i:qa B g v' e d)(k:B<=w.heap.size):jO B w0 (g.setCell ⟨sb,3,none⟩ v') sb sr mb mv1 mv2 av fv v' wd xs fs e d:=by
 have f:=PN.own h.rul.own;have c:=h.box.saveT hs f (by decide);have b:=PN.box c;have a:zd [sb] g (g.setCell ⟨sb,3,none⟩ v'):=zd.set _ _ _ _;have l:=c.set 3 v';exact⟨by simpa using l,(h.res.saveT hs f (by decide)).set_ne (Ne.symm h.low.2.2) _ _,(h.mak.saveT hs f (by decide)).saveT a b (by decide),yB (yB h.ari hs f (by decide)) a b (by decide),yB (yB h.fac hs f (by decide)) a b (by decide),i.saveT a b (by decide) (by decide) (by decide),(h.below.trans (hs.below (fun x j=>xb h.rul.own (yw j)) k)).setCell h.low.1 _,h.low⟩
structure kO (lo:Nat) (w:World) (av fv rv:Value) (S:qJ) (ps:List (Value×Value×Value)):Prop where
 ari:w.ownsRow lo 3 1 av S.qj.length (S.qj.map Qb)
 fac:p5 lo w fv S.facts
 rul:qa lo w rv S.rules ps
end
section
open Go.Proofs.Tryz Go.RowKit
variable {lo:Nat}
def LV(w:World)(S:qJ)(e:Ending)(d:World):Prop:=∃c b a f,e=.returned (.agg #[.int .i64 S.qf,c,b,a])/\kO w.heap.size d c b a S f/\Below w.heap.size w d
def QR(t:List zh)(k:Nat):List Nat:=(t.take k).map (·.jh)++List.replicate (t.length-k) 0
theorem eH(t:List zh)(k:Nat)(a:k<=t.length):(QR t k).length=t.length:=by simp[QR];omega
theorem KB(t:List zh)(k:Nat)(a:k<t.length):(QR t k).set k (uD t k)=QR t (k+1):=by
 have e:uD t k=t[k].jh:=by simp[uD,a]
 obtain⟨m,b⟩:∃m,t.length-k=m+1:=⟨t.length-k-1,by omega⟩;unfold QR;rw[e,fG _ _ (by simp;omega),uJ,vU,dH (by omega),jH,b,pS,pg,yP a,vC,show t.length-(k+1)=m from by omega,kB];rfl
theorem MJ(t:List zh):QR t t.length=t.map (·.jh):=by simp[QR]
theorem Fy{ah:Nat}(w:World)(tb o z:Nat)(t:List zh)(ns:List ByteArray)(cs:List zc)(cv ov:Value)(os:Option (List (Option (List Int))))(hT:TG lo w tb o t)(hC:lB lo w z ns)(b4:t.length<=1000)(bo:ns.length<=1000)(aj:Qa ah 171 w cv cs)(ba:∀c∈cs,c.head.args.length+xf c.body<=1000/\c.body.length<=900)(bF:cs.length<=1000)(ho:gG w ov os)(b0:(os.getD []).length<=2000000)(aB:∀o∈os.getD [],(o.getD []).length<=1000)(aN:∀n,x6 t n<=1000000):
  Calls prog 73 #[cv,.pointer (some ⟨tb,o,none⟩),.pointer (some ⟨z,0,none⟩),ov] w fun e U=>LV w (vS t ns os cs) e U:=by
 obtain⟨iI,bs,b2,aM,aO⟩:=info_parts Pa;obtain⟨iF,br,bt,aJ,aW⟩:=info_parts OW;obtain⟨iR,bz,bw,a2,a6⟩:=info_parts Pt;obtain⟨bR,b9,rfl⟩:=aj.qx;obtain⟨bO,bB,rfl⟩:=ho.qx;have aL:=Px fun W h=>Fc W z ns (hC.below h);have aH:=Px fun W h=>Ku lo W tb o t (hT.below h);have a4:=Px fun W i h=>Ic lo W tb o t i (hT.below h);have b1:=Px fun W k h=>II W _ os k (ho.below h) b0;have bu:Hid (∀k,((uw os k).getD []).length<=1000):=fun k=>by
  unfold uw;by_cases hk:k<(os.getD []).length
  ·rw[gu,yr hk];exact aB _ (zv hk)
  ·rw[gu,kp (by omega)];simp
 have aE:Hid (∀W mb,Below w.heap.size w W->Py W mb #[.pointer (some ⟨tb,o,none⟩),.pointer (some ⟨z,0,none⟩)] 200->lR lo W mb tb o z t ns):=fun W mb h hb=>⟨hb,hT.below h,hC.below h,b4,bo⟩;have bk:=Px aj;have bm:=Px ba;have bn:=Px aN;have HE:Hid (vS t ns os cs={qf:=ns.length,qj:=t.map (·.jh),facts:=vJ t ns cs,rules:=uZ t ns os cs}):=rfl;have aG:=fun W:World=>run_make (P:=prog) (w:=W) 24 3 iI _ underlying24 bs b2 .i64 .i64 (t.length:Int) (t.length:Int) (by omega) (Int.le_refl _) (by rw[aO];omega) (by omega);rw[aM] at aG;clear hT hC aj ho ba aB aN;go_enter func73,ntmps73;go_upto_region 3 with (first|(go_at_call 114;refine(aL.out _ (by exact(by go_grown))).mono ?_;rintro e w1 ⟨rfl,y⟩;obtain rfl:=y.symm)|(go_at_call 115;refine(aH.out _ (by exact(by go_grown))).mono ?_;rintro e w1 ⟨rfl,y⟩;obtain rfl:=y.symm))
 have hM:jO w.heap.size w ((((w.alloc (.cells #[.int .i64 0,.slice none 0 0,.slice none 0 0,.slice none 0 0] 146)).alloc (.cells #[.pointer (some ⟨tb,o,none⟩),.pointer (some ⟨z,0,none⟩)] 200)).alloc (.cells (madeCells #[.int .i64 0] t.length) 3)).alloc (.cells #[.int .i64 ns.length,.slice (some ⟨w.heap.size+1+1,0,none⟩) t.length t.length,.slice none 0 0,.slice none 0 0] 146)) (w.heap.size+1+1+1) w.heap.size (w.heap.size+1) (.pointer (some ⟨tb,o,none⟩)) (.pointer (some ⟨z,0,none⟩)) (.slice (some ⟨w.heap.size+1+1,0,none⟩) t.length t.length) (.slice none 0 0) (.slice none 0 0) ns.length (QR t 0) [] [] []:=by
  refine⟨(Py.new _ _ _).at' (by simp),((((Py.new w _ _).up _).up _).up _),((((Py.new _ _ _).up _).up _).at' (by simp)),?_,yI _ _ _ _,⟨yI _ _ _ _,rfl,fun k a=>by simp at a,by simp⟩,(by go_grown),by omega,by omega,by omega⟩;have q:=E6 ((w.alloc (.cells #[.int .i64 0,.slice none 0 0,.slice none 0 0,.slice none 0 0] 146)).alloc (.cells #[.pointer (some ⟨tb,o,none⟩),.pointer (some ⟨z,0,none⟩)] 200)) t.length 3 (by unfold maxLen;omega);simp only[World.size_alloc] at q;have q2:=zC (yq q (show w.heap.size<=w.heap.size+1+1 by omega)) ((zo _ _).alloc (zf _) (.cells #[.int .i64 ns.length,.slice (some ⟨w.heap.size+1+1,0,none⟩) t.length t.length,.slice none 0 0,.slice none 0 0] 146));rw[eH t 0 (by omega),show QR t 0=List.replicate t.length 0 from by simp[QR]];exact q2
 generalize (((w.alloc (.cells #[.int .i64 0,.slice none 0 0,.slice none 0 0,.slice none 0 0] 146)).alloc (.cells #[.pointer (some ⟨tb,o,none⟩),.pointer (some ⟨z,0,none⟩)] 200)).alloc (.cells (madeCells #[.int .i64 0] t.length) 3)).alloc (.cells #[.int .i64 ns.length,.slice (some ⟨w.heap.size+1+1,0,none⟩) t.length t.length,.slice none 0 0,.slice none 0 0] 146)=w3 at *;clear aG aL aH;have bc:=hM.box;obtain⟨ao,aQ,aD⟩:=bc.boxed;go_wp2;clear ao aQ aD bc;have d:Hid (jO _ _ _ _ _ _ _ _ _ _ _ _ _ _ _ _):=hM;clear hM;go_loopw [29] (fun bq wr=>∃k:Nat,k<=t.length/\bq=.int .i64 k/\Hid (jO w.heap.size w wr (w.heap.size+1+1+1) w.heap.size (w.heap.size+1) (.pointer (some ⟨tb,o,none⟩)) (.pointer (some ⟨z,0,none⟩)) (.slice (some ⟨w.heap.size+1+1,0,none⟩) t.length t.length) (.slice none 0 0) (.slice none 0 0) ns.length (QR t k) [] [] [])) (fun i _=>t.length-(intOf i).toNat)
 case atStart=>exact⟨0,zx _,rfl,d⟩
 case round=>
  clear d;obtain⟨k,hk,rfl,d⟩:=hrel;have b:=d.out.below;have T:=b.size;by_cases s:k<t.length
  ·have ap:=d.out.box;obtain⟨ao,aQ,aD⟩:=ap.boxed;have bJ:wr.cell? ⟨w.heap.size+1+1+1,1,none⟩=some (.slice (some ⟨w.heap.size+1+1,0,none⟩) t.length t.length):=by rw[ao];rfl
   have I:=d.out.ari;have ad:=eH t k hk;have bQ:(k:Int)<(t.length:Int):=by omega
   obtain⟨g',bA,ai,_,bK,R⟩:=yC I (by omega);simp only[Value.slice.injEq,zr,Addr.mk.injEq,and_true] at ai;have b7:=ai.1;clear ai;subst b7;obtain⟨ax,bT⟩:∃ax:Nat,wr.cell? ⟨w.heap.size+1+1,k,none⟩=some (.int .i64 (ax:Nat)):=⟨_,R k (.int .i64 ((QR t k)[k]'(by omega):Nat)) (by simp[Qb,ad,s])⟩;have bP:=qF I;have Q:=uI I k (by simp;omega) (.int .i64 (uD t k:Nat));have aF:Hid (((QR t k).map Qb).set k (.int .i64 (uD t k:Nat))=(QR t (k+1)).map Qb):=by rw[Hid,←KB t k s,fA];rfl
   rw[aF.out,ad] at Q;have bd:=Px fun W h=>a4.out W k (P3 b h);clear R ad;generalize uD t k=ar at *;go_wp2;go_region_held3 (fun U=>U.cell? ⟨w.heap.size+1+1+1,1,none⟩=some (.slice (some ⟨w.heap.size+1+1,0,none⟩) t.length t.length)) (first|go_keep|(go_simp;done)) (first|(go_at_call 80;refine(bd.out _ (by exact(by go_grown))).mono ?_;rintro e w4 ⟨rfl,y⟩;obtain rfl:=y.symm))
   go_wp2;have H:jO w.heap.size w (wr.setCell ⟨w.heap.size+1+1,k,none⟩ (.int .i64 ar)) (w.heap.size+1+1+1) w.heap.size (w.heap.size+1) (.pointer (some ⟨tb,o,none⟩)) (.pointer (some ⟨z,0,none⟩)) (.slice (some ⟨w.heap.size+1+1,0,none⟩) t.length t.length) (.slice none 0 0) (.slice none 0 0) ns.length (QR t (k+1)) [] [] []:=
    ⟨d.out.box.set_ne (by omega) _ _,d.out.res.set_ne (by omega) _ _,d.out.mak.set_ne (by omega) _ _,by rw[eH t (k+1) (by omega)];exact Q,yI _ _ _ _,⟨yI _ _ _ _,rfl,fun k a=>by simp at a,by simp⟩,b.setCell (by simp;omega) _,d.out.low⟩
   go_roundw
   case rel=>exact⟨k+1,by omega,by go_num,H.next ((zo _ _).drew) (zf _)⟩
   case measure=>simp[intOf];omega
  ·have bg:k=t.length:=by omega
   subst bg;rw[MJ] at d;clear hk s a4;go_wp2;go_loopw [42] (fun bv wr=>∃(k:Nat) (fv rv:Value) (ps:List (Value×Value×Value)),k<=cs.length/\bv=.int .i64 k/\Hid (jO w.heap.size w wr (w.heap.size+1+1+1) w.heap.size (w.heap.size+1) (.pointer (some ⟨tb,o,none⟩)) (.pointer (some ⟨z,0,none⟩)) (.slice (some ⟨w.heap.size+1+1,0,none⟩) t.length t.length) fv rv ns.length (t.map (·.jh)) (vJ t ns (cs.take k)) (uZ t ns os (cs.take k)) ps)) (fun i _=>cs.length-(intOf i).toNat)
   case atStart=>exact⟨0,_,_,_,zx _,rfl,d⟩
   case round=>
    clear d b T;obtain⟨k,fv,rv,ps,hk,rfl,d⟩:=hrel;have b:=d.out.below;have T:=b.size;by_cases s:k<cs.length
    ·obtain⟨g,aK,N,a0,V,b5,hg,aR,a1,bb,az,aV,av⟩:=bk.out.cell k s;subst b5;have bN:=zm b hg aR;have bM:=zm b hg a1;have bI:=zm b hg bb;have bD:=zm b hg az;have bE:g<wr.heap.size:=by omega
     obtain⟨bp,b6⟩:=bm.out cs[k] (zv s);have F:=Ot t ns cs k s;have E:=Kv t ns os cs k s;have a7:Hid (P7 ah w _ _):=aV;have aw:Hid (PX ah w _ _):=av;have bx:=On t ns (cs.take k);have aU:=Hw t ns os (cs.take k);rw[vU,dH (by omega)] at bx aU;clear aR a1 bb az aV av;generalize cs[k]=c at *;by_cases aI:c.body.length>0
     ·have a5:(c.body.length:Int)>0:=by omega
      simp only[aI,if_true,qE] at F E;have an:=Px F;have am:=Px E;clear F E;generalize vJ t ns (cs.take k)=C at *;generalize uZ t ns os (cs.take k)=rs at *;have aA:=Px fun W u h hu=>GG W (w.heap.size+1) tb o z t ns c _ _ u (uw os k) (aE.out W _ (P3 b h) (d.out.mak.below h)) (a7.out.below (P3 b h)) (aw.out.below (P3 b h)) bp b6 hu (bu.out k) (bn.out _);have aT:=Px fun W h=>b1.out W k (P3 b h);generalize uY t ns c (uw os k)=r at *;have x:=d.out.rul.own;obtain⟨L,A,ae⟩:=zs x;subst ae;have aS:Hid (∀W u,Below wr.heap.size wr W->jW W u (uw os k)->Calls prog 117 #[.pointer (some ⟨w.heap.size+1,0,none⟩),.agg #[.bool c.head.neg,.string c.head.pred,.slice aK c.head.args.length N,.slice a0 c.body.length V],u] W fun e U=>∃tv pv nv,e=.returned (.agg #[.int .i64 r.qh,.int .i64 r.vars,.int .i64 r.head.pred,tv,pv,nv])/\uU W.heap.size U tv pv nv r/\Below W.heap.size W U):=aA;clear aA;go_wp2_with (first|(go_at_call 116;refine(aT.out _ (by exact(by go_grown))).mono ?_;rintro e w1 ⟨u,rfl,hu,y⟩;obtain rfl:=y.symm;obtain⟨bG,b8,rfl⟩:=hu.qx)|(go_at_call 117;refine(aS.out _ _ (by exact(by go_grown)) hu).mono ?_;rintro e w2 ⟨tv,pv,nv,rfl,K,af⟩;obtain⟨a3,X,rfl⟩:=K.head.qx;obtain⟨a9,O,rfl⟩:=K.qc.qx;obtain⟨aX,Y,rfl⟩:=K.qp.qx;have l:Below wr.heap.size wr w2:=(zP (by go_grown) af (zf _));have m:=d.out.box.below l;obtain⟨aq,ac,aa⟩:=m.boxed;have bh:=l.size;have j:=zC x l)|(at_builtin;refine dO w2 _ [.int .i64 r.qh,.int .i64 r.vars,.int .i64 r.head.pred,.slice a3 r.head.qg.length X,.slice a9 r.qc.length O,.slice aX r.qp.length Y] _ rfl (.tmp 58) (.tmp 60) 144 rfl w.heap.size 207 iR _ 6 96 underlying144 bz bw a2 a6 rfl (by decide) (.slice L rs.length A) rs.length (kC rs ps) rfl j (by exact(by go_grown)) _ _ rfl (by simp) rfl (by simp[Value.oneCell']) (by omega) (by omega) (by omega) ?_;intro v' w3 G D aY;obtain⟨ay,S,rfl⟩:=zs G;have J:=m.saveT D (PN.own j) (by decide);obtain⟨al,au,Z⟩:=J.boxed))
      have aC:uU w.heap.size w2 _ _ _ r:=K.low (show w.heap.size<=_ by simp;omega);have H:jO _ _ _ _ _ _ _ _ _ _ _ _ _ _ _ _:=(d.out.next l (zf _)).pushR D (qa.push (r:=r) (p:=(.slice a3 r.head.qg.length X,.slice a9 r.qc.length O,.slice aX r.qp.length Y)) (d.out.rul.below l) (by omega) aC G D) (by omega);go_roundw
      case rel=>exact⟨k+1,_,_,_,by omega,by go_num,by rw[an.out,am.out];exact H⟩
      case measure=>simp[intOf];omega
     ·have a5:¬(c.body.length:Int)>0:=by omega
      simp only[aI,if_false,qE] at F E;have an:=Px F;have am:=Px E;clear F E;generalize vJ t ns (cs.take k)=C at *;generalize uZ t ns os (cs.take k)=rs at *;have a8:=Px fun W h=>EU W (w.heap.size+1) tb o z t ns c _ _ (aE.out W _ (P3 b h) (d.out.mak.below h)) (a7.out.below (P3 b h)) (aw.out.below (P3 b h)) (by omega);generalize vx t ns c=f at *;have aP:Hid (∀W,Below wr.heap.size wr W->Calls prog 118 #[.pointer (some ⟨w.heap.size+1,0,none⟩),.agg #[.bool c.head.neg,.string c.head.pred,.slice aK c.head.args.length N,.slice a0 c.body.length V]] W fun e U=>e=.returned (.agg #[.int .i64 f.pred,.int .i64 (f.row.getD 0 0:Nat),.int .i64 (f.row.getD 1 0:Nat),.int .i64 (f.row.getD 2 0:Nat)])/\Below W.heap.size W U):=a8;have b3:Hid (ky (C++[f])=ky C++[.int .i64 f.pred,.int .i64 (f.row.getD 0 0:Nat),.int .i64 (f.row.getD 1 0:Nat),.int .i64 (f.row.getD 2 0:Nat)]):=Ix C f;clear a8;generalize f.row.getD 0 0=f0 at *;generalize f.row.getD 1 0=f1 at *;generalize f.row.getD 2 0=f2 at *;have x:wr.ownsRow w.heap.size 210 4 fv C.length (ky C):=d.out.fac;obtain⟨M,B,ak⟩:=zs x;subst ak;go_wp2_with (first|(go_at_call 118;refine(aP.out _ (by exact(by go_grown))).mono ?_;rintro e w2 ⟨rfl,af⟩;have l:Below wr.heap.size wr w2:=(zP (by go_grown) af (zf _));have m:=d.out.box.below l;obtain⟨aq,ac,aa⟩:=m.boxed;have bh:=l.size;have j:=zC x l)|(at_builtin;refine dO w2 _ [.int .i64 f.pred,.int .i64 f0,.int .i64 f1,.int .i64 f2] _ rfl (.tmp 66) (.tmp 68) 143 rfl w.heap.size 210 iF _ 4 32 underlying143 br bt aJ aW rfl (by decide) (.slice M C.length B) C.length (ky C) rfl j (by exact(by go_grown)) _ _ rfl (by simp) rfl (by simp[Value.oneCell']) (by omega) (by omega) (by omega) ?_;intro v' w3 G D aY;obtain⟨ay,S,rfl⟩:=zs G;have J:=m.saveT D (PN.own j) (by decide);obtain⟨al,au,Z⟩:=J.boxed))
      have bi:p5 w.heap.size w3 (.slice ay (C.length+1) S) (C++[f]):=by
       unfold p5;rw[b3.out,yv];exact G
      have H:jO _ _ _ _ _ _ _ _ _ _ _ _ _ _ _ _:=(d.out.next l (zf _)).pushF D bi (by omega);go_roundw
      case rel=>exact⟨k+1,_,_,_,by omega,by go_num,by rw[an.out,am.out];exact H⟩
      case measure=>simp[intOf];omega
    ·have be:Hid (cs.take k=cs):=by rw[Hid,xi (by omega)]
     rw[be.out] at d;have ap:=d.out.box;have aZ:=d.out.res;obtain⟨bS,bL,bH⟩:=ap.boxed;obtain⟨bf,bC,aU⟩:=aZ.boxed;obtain⟨M,B,ak⟩:=zs d.out.fac;obtain⟨L,A,ae⟩:=zs d.out.rul.own;subst ak;subst ae;generalize vJ t ns cs=C at *;generalize uZ t ns os cs=rs at *;go_wp2
     (try simp only[Exit.inBlock,Exit.then])
     refine zK (v:=.agg #[.int .i64 ns.length,.slice (some ⟨w.heap.size+1+1,0,none⟩) t.length t.length,.slice M C.length B,.slice L rs.length A]) (by simp[results,results73,go_sem,bf]) rfl ⟨_,_,_,ps,by rw[HE.out],?_,?_⟩
     ·have ag:zd [w.heap.size] wr ((((wr.setCell ⟨w.heap.size,0,none⟩ (.int .i64 ns.length)).setCell ⟨w.heap.size,1,none⟩ (.slice (some ⟨w.heap.size+1+1,0,none⟩) t.length t.length)).setCell ⟨w.heap.size,2,none⟩ (.slice M C.length B)).setCell ⟨w.heap.size,3,none⟩ (.slice L rs.length A)):=(((zd.set _ _ _ _).trans (zd.set _ _ _ _)).trans (zd.set _ _ _ _)).trans (zd.set _ _ _ _);have ab:=PN.box aZ;rw[HE.out];exact⟨yB d.out.ari ag ab (by decide),yB d.out.fac ag ab (by decide),d.out.rul.saveT ag ab (by decide) (by decide) (by decide)⟩
     ·exact(((b.setCell (by simp) _).setCell (by simp) _).setCell (by simp) _).setCell (by simp) _
end
section
variable {cs:List zc}{t t0:List zh}{c:zc}{vs:List ByteArray}
structure PI (cs:List zc) (t0 t:List zh):Prop where
 few:QQ cs<=500
 many:∀c∈cs,yE c=false
 coll:ud cs=some t0
 tab:Q8 t0 (cs.flatMap zl)
 safe:∀c∈cs,xo c=true
 jm:xF (t0.length+1) t0 cs=(t,true)
theorem Bm{s:ByteArray}(h:uc s=.ok (cs,t)):∃t0,PI cs t0 t:=by
 unfold uc at h;split at h
 ·cases h
 ·rename_i o;split at h
  ·cases h
  ·rename_i m j;split at h
   ·cases h
   ·rename_i k i;split at h
    ·cases h
    ·rename_i f;split at h
     ·cases h
     ·rename_i t0 e;split at h
      ·rename_i a;split at h
       ·rename_i b;obtain⟨rfl,rfl⟩:=h;refine⟨t0,?_,fun c d=>?_,e,E5 e,fun c d=>lg.1 a c d,?_⟩
        ·have n:=sM i;have l:=rO j;omega
        ·cases g:yE c with
         |false=>rfl
         |true=>exact zB (kT.2 ⟨c,d,g⟩) f
        ·rw[←b]
       ·cases h
      ·cases h
def Qu(t:List zh):List (ByteArray×Nat):=t.map fun e=>(e.name,e.jh)
theorem G5(t:List zh)(n:ByteArray)(s:Nat):Qu (xz t n s).1=Qu t:=by
 unfold xz;split
 ·rfl
 ·rename_i e d;split
  ·rfl
  ·obtain⟨j,b,f⟩:=jJ d;unfold Qu;refine gS (by simp) fun i h g=>?_;simp only[vm,mJ];split
   ·rename_i a;subst a;rw[b]
   ·rfl
theorem Ak:∀(cs:List zc) (x:List zh×Bool),Qu (cs.foldl vD x).1=Qu x.1
 |[],_=>rfl
 |c::cs,x=>by
  rw[un,Ak cs];exact G5 _ _ _
theorem ph:∀(m:Nat) (t:List zh) (cs:List zc),Qu (xF m t cs).1=Qu t
 |0,_,_=>rfl
 |m+1,t,cs=>by
  have a:Qu (vw t cs).1=Qu t:=Ak cs (t,false);unfold xF;split
  ·rw[ph m,a]
  ·exact a
theorem CU{a:List zh}(h:Qu t=Qu a):P2 t=P2 a:=by
 have:=congrArg (List.map Prod.fst) h;simpa [Qu,P2,Function.comp_def] using this
theorem PI.lit(h:PI cs t0 t)(v:c∈cs){l:zj}(r:l∈zl c):∃e,yn t l.pred=some e/\e.name=l.pred/\zM t l.pred<t.length/\(t.map (·.jh)).getD (zM t l.pred) 0=l.args.length/\zM t l.pred=zV t l.pred:=by
 have g:Qu t=Qu t0:=by have:=ph (t0.length+1) t0 cs;rw[h.jm] at this;exact this
 have a:=uF.2 ⟨c,v,r⟩;have f:(yn t0 l.pred).isSome=true:=by
  cases j:yn t0 l.pred with
  |some e=>rfl
  |none=>
   obtain⟨e,q,p⟩:=z9.1 ((h.tab.names l.pred).2 ⟨l,a,rfl⟩);exact zB p (mN h.tab.rise j e q)
 have i:=(CD (CU g).symm _).1 f;obtain⟨e,j⟩:=my.1 i;obtain⟨k,o,n⟩:=jJ j;have d:zM t l.pred=zV t l.pred:=by unfold zM;rw[zb i]
 refine⟨e,j,n,by rw[d];exact k,?_,d⟩;rw[d];have s:(t.map (·.jh)).getD (zV t l.pred) 0=e.jh:=by simp[List.getD,k,o]
 rw[s];have b:(e.name,e.jh)∈Qu t0:=by
  rw[←g];exact z9.2 ⟨e,by rw[←o];exact zv k,rfl⟩
 obtain⟨u,w,m⟩:=z9.1 b;simp only[yc] at m;rw[←m.2];exact(h.tab.jh u w l a (by rw[m.1,n])).symm
theorem PI.sol(h:PI cs t0 t):Qt cs (val t):=by
 have a:kc t0 cs:=by
  intro c j l i;have b:=uF.2 ⟨c,j,i⟩;cases g:yn t0 l.pred with
  |some e=>rfl
  |none=>
   obtain⟨e,f,d⟩:=z9.1 ((h.tab.names l.pred).2 ⟨l,b,rfl⟩);exact zB d (mN h.tab.rise g e f)
 have:=rX (t0.length+1) t0 cs a (by rw[h.jm]);rw[h.jm] at this;exact this
theorem tu(t:List zh)(n:ByteArray):x6 t n=val t n:=rfl
theorem NS{a b:ByteArray}{d f:zh}(j:yn t a=some d)(h:yn t b=some f)(e:zV t a=zV t b):a=b:=by
 obtain⟨m,l,k⟩:=jJ j;obtain⟨n,i,g⟩:=jJ h;have:d=f:=by rw[←l,←i];simp[e]
 rw[←k,←g,this]
theorem nP(p:Nat)(ts:List ya)(x:ya):(qR p ts x).var=x.var/\(qR p ts x).num=x.num:=by unfold qR;split<;>exact⟨rfl,rfl⟩
theorem oo(t:List zh)(ns vs:List ByteArray)(a:List Nat)(l:zj)(p:Nat):zH (zI t ns vs a l) p=zH ⟨0,ub ns vs a l⟩ p:=by
 unfold zH zI;simp only[List.any_map];congr 1;funext x;simp only[Function.comp,(nP 0 _ x).1,(nP 0 _ x).2]
theorem Kw(t:List zh)(ns vs:List ByteArray)(a:List Nat)(l:zj)(p:Nat):yN (zI t ns vs a l) p=yN ⟨0,ub ns vs a l⟩ p:=by
 unfold yN;rw[oo,show zH (zI t ns vs a l)=zH ⟨0,ub ns vs a l⟩ from funext (oo t ns vs a l)]
theorem HY(ns:List ByteArray)(x:ByteArray):(uj ns x).getD 0<zJ ns.length:=by
 unfold uj zJ;split
 ·rename_i h;simp only[ux];split<;>omega
 ·simp only[kZ];split<;>omega
theorem iA(t:List zh)(ns vs:List ByteArray)(a:List Nat)(l:zj)(q:∀k,a.getD k 0<5)(p:l.args.length<=3):qu (zI t ns vs a l) l.args.length (zJ ns.length):=by
 have b:∀x∈(zI t ns vs a l).qg,∃y∈l.args,x=qR 0 (ub ns vs a l) (uG ns vs a y)/\uG ns vs a y∈ub ns vs a l:=by
  intro x e;unfold zI at e;simp only[z9] at e;obtain⟨z,i,rfl⟩:=e;have f:=i;unfold ub at i;obtain⟨y,h,rfl⟩:=z9.1 i;exact⟨y,h,rfl,f⟩
 refine⟨by simp[zI,ub],p,fun x e d=>?_,fun x e d=>?_⟩
 ·obtain⟨y,h,rfl,m⟩:=b x e;obtain⟨n,j⟩:=nP 0 (ub ns vs a l) (uG ns vs a y);rw[n] at d;rw[j,Kw];refine⟨?_,?_⟩
  ·unfold uG at d ⊢;split
   ·unfold uu;split
    ·exact Nat.lt_of_sub_eq_succ rfl
    ·split
     ·exact Nat.lt_of_sub_eq_succ rfl
     ·exact q _
   ·rename_i g;rw[za g] at d;cases d
  ·have o:zH ⟨0,ub ns vs a l⟩ (uG ns vs a y).num=true:=(hG _ _).2 ⟨_,m,d,rfl⟩;unfold qR;rw[zb d];simp only;unfold yN;rw[zb o];rfl
 ·obtain⟨y,h,rfl,m⟩:=b x e;obtain⟨n,j⟩:=nP 0 (ub ns vs a l) (uG ns vs a y);unfold uG at d ⊢;split
  ·rename_i g;rw[zb g] at d;cases d
  ·exact HY ns y
theorem AW{ns:List ByteArray}{f:List Nat}{l:zj}{p:Nat}:zH (zI t ns vs f l) p=true↔∃y∈l.args,zO y=true/\uu vs f y=p:=by
 rw[oo,hG];constructor
 ·rintro⟨x,h,g,b⟩;unfold ub at h;obtain⟨y,d,rfl⟩:=z9.1 h;unfold uG at g b;by_cases a:zO y=true
  ·rw[zb a] at b;exact⟨y,d,a,b⟩
  ·rw[za a] at g;cases g
 ·rintro⟨y,d,a,e⟩;refine⟨uG ns vs f y,z9.2 ⟨y,d,rfl⟩,?_,?_⟩
  ·unfold uG;rw[zb a]
  ·unfold uG;rw[zb a];exact e
theorem MP(h:vs.Nodup)(x:ByteArray):(jz vs x).Nodup:=by
 unfold jz;split
 ·rename_i d;simp only[vq,Bool.not_eq_true'] at d;rw[n8];refine⟨h,by simp,fun a f b e=>?_⟩;simp at e;subst e;rintro rfl;rw[j7.2 f] at d;cases d.2
 ·exact h
theorem Cm:∀(args vs:List ByteArray),vs.Nodup->(xn vs args).Nodup
 |[],_,h=>h
 |x::r,vs,h=>Cm r (jz vs x) (MP h x)
theorem DO(c:zc):(z7 c).Nodup:=by
 have:∀(a:List zj) (vs:List ByteArray),vs.Nodup->(a.foldl vA vs).Nodup:=by
  intro a;induction a with
  |nil=>intro vs h;exact h
  |cons l a b=>
   intro vs h;rw[un];refine b _ ?_;unfold vA;split
   ·exact h
   ·exact Cm _ _ h
 exact this c.body [] List.nodup_nil
theorem pf{α:Type}[DecidableEq α]:∀{l1 l2:List α},l1.Nodup->(∀x∈l1,x∈l2)->l1.length<=l2.length
 |[],l2,_,_=>by simp
 |a::l1,l2,d,g=>by
  have f:=g a (by simp);have h:=pf (l1:=l1) (l2:=l2.erase a) (j8.1 d).2 (fun x e=>by
   have b:x≠a:=by rintro rfl;exact(j8.1 d).1 e
   exact(mS b).2 (g x (by simp[e])))
  rw[nQ f] at h;have:=ny f;simp;omega
theorem Cf:∀{l:List ByteArray} (_:l.Nodup) {k:Nat} (f:k<l.length),yp l l[k]=some k
 |y::r,b,0,_=>by simp[yp]
 |y::r,b,k+1,f=>by
  have a:k<r.length:=by simpa using f
  have d:y≠r[k]:=by
   rintro e;exact(j8.1 b).1 (e ▸ zv a)
  simp only[mB,yp,za d,Cf (j8.1 b).2 a,jj]
theorem sX:∀{ps:List ByteArray} {n:ByteArray},n∈ps->∃k,k<ps.length/\yp ps n=some k:=fun{ps n} h=>by
 have:(yp ps n).isSome=true:=by rw[i8];exact j7.2 h
 obtain⟨k,a⟩:=my.1 this;obtain⟨b,_⟩:=f6 a;exact⟨k,b,a⟩
theorem lV(h:yE c=false):c.head.args.length<=3/\c.body.length<=6/\(∀l∈c.body,l.args.length<=3)/\(xI c).length<=5:=by
 simp only[yE,np,decide_eq_false_iff_not,List.any_eq_false,decide_eq_true_eq] at h;obtain⟨⟨⟨f,d⟩,b⟩,e⟩:=h;exact⟨by omega,by omega,fun l a=>by have:=b l a;omega,by omega⟩
theorem mi(h:yE c=false):(z7 c).length<=5:=by
 have f:=(lV h).2.2.2;have:=pf (DO c) (l2:=xI c) (fun x e=>by
  obtain⟨a,l,b,_,d⟩:=gI.1 e;exact tU.2 ⟨a,ze ⟨l,b,d⟩⟩)
 omega
structure gV (pl:List Nat) (k:Nat):Prop where
 five:∀i,pl.getD i 0<5
 low:∀i,i<k->pl.getD i 0<k
 onto:∀p,p<k->∃i,i<k/\pl.getD i 0=p
theorem E8(h:PI cs t0 t)(u:c∈cs)(ns:List ByteArray)(o:Option (List Int))(v:gV (yQ (o.getD [])) (z7 c).length):n5 (uY t ns c o) (t.map (·.jh)) (zJ ns.length):=by
 have D:=h.many c u;obtain⟨K,T,E,S⟩:=lV D;have P:=mi D;have B:=h.safe c u;simp only[xo,vq,lg,dX,Bool.not_eq_true'] at B;have a:∀{l:zj} {p:Nat},(∀y∈l.args,zO y=true->y∈z7 c)->zH (zI t ns (z7 c) (yQ (o.getD [])) l) p=true->p<(z7 c).length:=by
  intro l p s m;obtain⟨y,L,M,r⟩:=AW.1 m;obtain⟨k,H,I⟩:=sX (s y L M);unfold uu at r;rw[I] at r;simp only at r;rw[za (by omega)] at r;rw[←r];exact v.low k H
 have g:=mY.1 B.1;have d:∀l∈c.body,∀y∈l.args,zO y=true->y∈z7 c:=by
  intro l b y C s;cases G:l.neg with
  |false=>exact gI.2 ⟨s,l,b,G,C⟩
  |true=>
   rcases B.2 l b with q|q
   ·rw[G] at q;cases q
   ·exact mY.1 q y C s
 have j:∀l∈c.body,(zI t ns (z7 c) (yQ (o.getD [])) l).pred<(t.map (·.jh)).length/\qu (zI t ns (z7 c) (yQ (o.getD [])) l) ((t.map (·.jh)).getD (zI t ns (z7 c) (yQ (o.getD [])) l).pred 0) (zJ ns.length):=by
  intro l b;obtain⟨e,_,_,w,z,_⟩:=h.lit u (l:=l) (by simp[zl,b]);refine⟨by simpa [zI] using w,?_⟩;show qu _ ((t.map (·.jh)).getD (zM t l.pred) 0) _;rw[z];exact iA t ns _ _ l v.five (E l b)
 obtain⟨e,_,_,w,z,_⟩:=h.lit u (l:=c.head) (by simp[zl]);refine⟨⟨P,fun l b=>?_,fun l b p m=>?_,fun l b p m=>?_,fun p m=>a g m,fun p A=>?_⟩,by simpa [uY,zI] using w,?_,fun l b=>?_,fun l b=>?_⟩
 ·obtain⟨x,f,rfl⟩:=z9.1 b;have:=E x (xX.1 f).1;simp[zI,ub];omega
 ·obtain⟨x,f,rfl⟩:=z9.1 b;exact a (d x (xX.1 f).1) m
 ·obtain⟨x,f,rfl⟩:=z9.1 b;exact a (d x (xX.1 f).1) m
 ·obtain⟨i,F,O⟩:=v.onto p A;have n:=zv F;obtain⟨Q,l,J,R,N⟩:=gI.1 n;refine⟨_,z9.2 ⟨l,xX.2 ⟨J,by simp[R]⟩,rfl⟩,AW.2 ⟨_,N,Q,?_⟩⟩;unfold uu;rw[Cf (DO c) F];simp only;rw[za (by omega)];exact O
 ·show qu _ ((t.map (·.jh)).getD (zM t c.head.pred) 0) _;rw[z];exact iA t ns _ _ c.head v.five K
 ·obtain⟨x,f,rfl⟩:=z9.1 b;exact j x (xX.1 f).1
 ·obtain⟨x,f,rfl⟩:=z9.1 b;exact j x (xX.1 f).1
theorem BB(h:PI cs t0 t)(ns:List ByteArray)(os:Option (List (Option (List Int))))(hp:∀i (d:i<cs.length),gV (yQ ((uw os i).getD [])) (z7 cs[i]).length):rz (vS t ns os cs):=by
 have w:∀a∈t.map (·.jh),a<=3:=by
  intro a W;obtain⟨e,R,rfl⟩:=z9.1 W;have G:Qu t=Qu t0:=by have:=ph (t0.length+1) t0 cs;rw[h.jm] at this;exact this
  have m:(e.name,e.jh)∈Qu t0:=by rw[←G];exact z9.2 ⟨e,R,rfl⟩
  obtain⟨E,M,L⟩:=z9.1 m;simp only[yc] at L;obtain⟨l,N,X⟩:=(h.tab.names E.name).1 (z9.2 ⟨E,M,rfl⟩);have:=h.tab.jh E M l N X;obtain⟨c,F,z⟩:=uF.1 N;obtain⟨V,_,C,_⟩:=lV (h.many c F);rw[←L.2,←this];rcases zu.1 z with rfl|z
  ·exact V
  ·exact C l z
 have H:0<zJ ns.length:=by unfold zJ;split<;>omega
 have b:∀r∈uZ t ns os cs,∃i,∃d:i<cs.length,0<cs[i].body.length/\r=uY t ns cs[i] (uw os i):=by
  intro r o;unfold uZ at o;obtain⟨⟨c,i⟩,h1,y⟩:=lN.1 o;have J:=rk.1 h1;simp only at y J;obtain⟨d,rfl⟩:=jA.1 J;split at y
  ·rename_i U;simp only[zr] at y;exact⟨i,d,U,y.symm⟩
  ·cases y
 refine⟨w,fun f hf=>?_,fun r o=>?_,fun r o S I B l z=>?_⟩
 ·have A:f∈vJ t ns cs:=hf;unfold vJ at A;obtain⟨c,F,rfl⟩:=z9.1 A;have u:=(xX.1 F).1;obtain⟨e,_,_,C,T,_⟩:=h.lit u (l:=c.head) (by simp[zl]);have s:qu (zI t ns [] [0,0,0,0,0] c.head) c.head.args.length (zJ ns.length):=iA t ns [] _ c.head (fun k=>by
   by_cases Z:k<5
   ·have:k=0∨k=1∨k=2∨k=3∨k=4:=by omega
    rcases this with rfl|rfl|rfl|rfl|rfl<;>decide
   ·simp[List.getD,List.getElem?_eq_none (show([0,0,0,0,0]:List Nat).length<=k by simp;omega)]) (lV (h.many c u)).1
  refine⟨by simpa [vx,vS] using C,?_,?_⟩
  ·show PG ((t.map (·.jh)).getD (zM t c.head.pred) 0) _;rw[T];exact tF s _
  ·refine oS s H fun p _=>?_;by_cases Z:p<5
   ·have:p=0∨p=1∨p=2∨p=3∨p=4:=by omega
    rcases this with rfl|rfl|rfl|rfl|rfl<;>exact H
   ·rw[show([0,0,0,0,0]:List Nat).getD p 0=0 by simp[List.getD,List.getElem?_eq_none (show([0,0,0,0,0]:List Nat).length<=p by simp;omega)]];exact H
 ·obtain⟨i,d,_,rfl⟩:=b r o;exact E8 h (zv d) ns _ (hp i d)
 ·obtain⟨i,d,_,rfl⟩:=b r o;obtain⟨j,P,_,rfl⟩:=b S I;obtain⟨x,K,rfl⟩:=z9.1 z;have v:=(xX.1 K).1;have D:x.neg=true:=by simpa using(xX.1 K).2
  have g:=h.sol cs[i] (zv d) x v;unfold up at g;rw[zb D] at g;obtain⟨e1,a1,_,_,_,Y⟩:=h.lit (zv d) (l:=x) (by simp[zl,v]);obtain⟨e2,b1,_,_,_,Q⟩:=h.lit (zv P) (l:=cs[j].head) (by simp[zl]);intro e;have O:zM t x.pred=zM t cs[j].head.pred:=e;rw[Y,Q] at O;have n:=NS a1 b1 O;have q:x6 t cs[i].head.pred=x6 t cs[j].head.pred:=B;rw[tu,tu,←n] at q;omega
theorem tR{k:Nat}(f:k<=5):gV (yQ []) k:=by
 have e:yQ []=[0,1,2,3,4]:=rfl;have b:∀i,i<5->([0,1,2,3,4]:List Nat).getD i 0=i:=by
  intro i a;have:i=0∨i=1∨i=2∨i=3∨i=4:=by omega
  rcases this with rfl|rfl|rfl|rfl|rfl<;>rfl
 rw[e];refine⟨fun i=>?_,fun i a=>by rw[b i (by omega)];exact a,fun p d=>⟨p,d,b p (by omega)⟩⟩;by_cases a:i<5
 ·rw[b i a];exact a
 ·simp[List.getD,List.getElem?_eq_none (show([0,1,2,3,4]:List Nat).length<=i by simp;omega)]
end
section
open Classical
theorem PI.low{cs:List zc}{a t:List zh}(h:PI cs a t):t.length=a.length/\t.length<=500/\∀n,x6 t n<=t.length:=by
 have b:Qu t=Qu a:=by have:=ph (a.length+1) a cs;rw[h.jm] at this;exact this
 have d:t.length=a.length:=by have:=congrArg List.length b;simpa [Qu] using this
 have q:=sj _ [] a h.coll;have s:=e9 cs;have u:=h.few;simp only[kE,vF] at q;have g:kc a cs:=by
  intro c m l k;have i:=uF.2 ⟨c,m,k⟩;cases f:yn a l.pred with
  |some e=>rfl
  |none=>
   obtain⟨e,p,j⟩:=z9.1 ((h.tab.names l.pred).2 ⟨l,i,rfl⟩);exact zB j (mN h.tab.rise f e p)
 have r:∀n,val a n=0:=fun n=>by
  unfold val;split
  ·rename_i e f;have:=sT _ [] (fun e f=>by cases f) a h.coll e (nm f).1;omega
  ·rfl
 have o:=(sO g r).2 (by rw[h.jm]);rw[h.jm] at o;refine⟨d,by omega,fun n=>?_⟩;rw[tu];by_cases j:n∈P2 a
 ·have:=eQ o (ps:=P2 a) (fun c m l k=>(h.tab.names l.pred).2 ⟨l,uF.2 ⟨c,m,k⟩,rfl⟩) j;simp[P2] at this;show val t n<=_;omega
 ·have:val t n=0:=wK (by rw[CU b];exact j);omega
theorem Ou(cs:List zc):ft cs<=QQ cs:=by
 induction cs with
 |nil=>simp[ft,QQ]
 |cons c cs d=>
  have f:=ri c.body;have e:gj c.body=xf c.body:=by
   have:∀b:List zj,gj b=xf b:=by
    intro b;induction b with
    |nil=>rfl
    |cons a b d=>simp[gj,xf,ka] at d ⊢;omega
   exact this _
  simp[ft,QQ,Re,kg,ka] at d ⊢;omega
end
section
variable {ns:List ByteArray}
theorem tD(h:y5 ns){i j:Nat}(a:i<j)(b:j<ns.length):PS (ns.getD i ByteArray.empty) (ns.getD j ByteArray.empty)=true:=by
 have c:i<ns.length:=by omega
 rw[P5 _ c,P5 _ b];exact tN.1 h i j c b a
theorem Hf(h:y5 ns)(x:ByteArray):∀(n l a:Nat),l<=a->a<=ns.length->a-l<n->(∀i,i<l->PS (ns.getD i ByteArray.empty) x=true)->(∀i,a<=i->i<ns.length->PS (ns.getD i ByteArray.empty) x=false)->Qd ns x n l a<=ns.length/\(∀i,i<Qd ns x n l a->PS (ns.getD i ByteArray.empty) x=true)/\∀i,Qd ns x n l a<=i->i<ns.length->PS (ns.getD i ByteArray.empty) x=false:=by
 intro n;induction n with
 |zero=>intro l a _ _ q;omega
 |succ n o=>
  intro l a u r v j k;unfold Qd;by_cases d:l<a
  ·rw[zb d];have t:l+(a-l) / 2<a:=by omega
   have g:l<=l+(a-l) / 2:=by omega
   generalize l+(a-l) / 2=m at *;by_cases e:PS (ns.getD m ByteArray.empty) x=true
   ·rw[zb e];refine o (m+1) a (by omega) r (by omega) (fun i p=>?_) k;by_cases c:i=m
    ·rw[c];exact e
    ·exact lt_trans (tD h (show i<m by omega) (by omega)) e
   ·rw[za e];have b:PS (ns.getD m ByteArray.empty) x=false:=by simpa using e
    refine o l m g (by omega) (by omega) j (fun i p f=>?_);by_cases c:i=m
    ·rw[c];exact b
    ·cases s:PS (ns.getD i ByteArray.empty) x with
     |false=>rfl
     |true=>
      have:=lt_trans (tD h (show m<i by omega) f) s;rw[this] at b;cases b
  ·rw[za d];exact⟨by omega,j,fun i p f=>k i (by omega) f⟩
theorem oZ(h:y5 ns)(x:ByteArray):uz ns x<=ns.length/\(∀i,i<uz ns x->PS (ns.getD i ByteArray.empty) x=true)/\∀i,uz ns x<=i->i<ns.length->PS (ns.getD i ByteArray.empty) x=false:=
 Hf h x _ 0 ns.length (zx _) (zf _) (by omega) (fun i a=>by omega) (fun i a b=>by omega)
theorem pR(h:y5 ns){v:Nat}(a:v<ns.length):uj ns (ns.getD v ByteArray.empty)=some v:=by
 obtain⟨e,c,b⟩:=oZ h (ns.getD v ByteArray.empty);have d:uz ns (ns.getD v ByteArray.empty)=v:=by
  rcases pe (uz ns (ns.getD v ByteArray.empty)) v with q|q|q
  ·have:=b _ (zf _) (by omega);rw[tD h q a] at this;cases this
  ·exact q
  ·have:=c v q;rw[PE] at this;cases this
 unfold uj;rw[d,zb ⟨a,rfl⟩]
theorem GL{x:ByteArray}{v:Nat}(h:uj ns x=some v):v<ns.length/\ns.getD v ByteArray.empty=x:=by
 unfold uj at h;split at h
 ·rename_i a;simp only[zr] at h;subst h;exact a
 ·cases h
theorem Kn(h:y5 ns){x:ByteArray}(b:x∈ns):∃v,uj ns x=some v/\v<ns.length:=by
 obtain⟨v,a,rfl⟩:=vG b;have:=pR h a;rw[P5 _ a] at this;exact⟨v,this,a⟩
theorem J0(h:y5 ns)(x:ByteArray):y5 (lm ns x)/\∀y,y∈lm ns x↔y=x∨y∈ns:=by
 unfold lm;obtain⟨A,v,t⟩:=oZ h x;by_cases f:uz ns x<ns.length/\ns.getD (uz ns x) ByteArray.empty=x
 ·rw[zb f];refine⟨h,fun y=>⟨ze,fun q=>q.elim (fun e=>?_) id⟩⟩;rw[e,←f.2,P5 _ f.1];exact zv f.1
 ·rw[za f];generalize uz ns x=p at *;refine⟨?_,fun y=>?_⟩
  ·unfold y5;have o:=qU p ns;have c:=h;unfold y5 at c;rw[←o,po] at c;rw[po,nN];have l:∀a∈ns.take p,PS a x=true:=fun a j=>by
    obtain⟨i,s,rfl⟩:=vG j;have m:i<p:=by simp at s;omega
    have d:i<ns.length:=by omega
    have:=v i m;rw[P5 _ d] at this;simpa using this
   have r:∀b∈ns.drop p,PS x b=true:=fun b g=>by
    obtain⟨i,s,rfl⟩:=vG g;have d:p+i<ns.length:=by simp at s;omega
    have u:=t (p+i) (by omega) d;rw[P5 _ d] at u;rw[List.getElem_drop];cases z:PS x ns[p+i] with
    |true=>rfl
    |false=>
     exfalso;have e:=r8 u z;by_cases n:i=0
     ·subst n;exact f ⟨by omega,by rw[P5 _ (by omega)];simpa using e⟩
     ·have k:=tD h (show p<p+i by omega) d;rw[P5 _ d,e] at k;have w:=t p (zf _) (by omega);rw[w] at k;cases k
   refine⟨c.1,⟨r,c.2.1⟩,fun a j b g=>?_⟩;rcases zu.1 g with rfl|g
   ·exact l a j
   ·exact c.2.2 a j b g
  ·have:y∈ns↔y∈ns.take p∨y∈ns.drop p:=by
    rw[←zX,qU]
   rw[this];simp only[zX,zu];constructor
   ·rintro(q|q|q)
    ·exact ze (zg q)
    ·exact zg q
    ·exact ze (ze q)
   ·rintro(q|q|q)
    ·exact ze (zg q)
    ·exact zg q
    ·exact ze (ze q)
theorem Ha(h:y5 ns)(x:ByteArray):y5 (qq ns x)/\∀y,y∈qq ns x↔(y=x/\zO x=false)∨y∈ns:=by
 unfold qq;cases a:zO x with
 |true=>simp[h]
 |false=>simpa using J0 h x
theorem ic:∀(b:List ByteArray) {ns:List ByteArray},y5 ns->y5 (b.foldl qq ns)/\∀y,y∈b.foldl qq ns↔(y∈b/\zO y=false)∨y∈ns
 |[],ns,h=>⟨h,fun y=>by simp⟩
 |x::b,ns,h=>by
  obtain⟨d,g⟩:=Ha h x;obtain⟨e,f⟩:=ic b d;refine⟨e,fun y=>?_⟩;rw[un,f,g];simp only[zu];constructor
  ·rintro(⟨c,a⟩|⟨rfl,a⟩|q)
   ·exact zg ⟨ze c,a⟩
   ·exact zg ⟨zg rfl,a⟩
   ·exact ze q
  ·rintro(⟨rfl|c,a⟩|q)
   ·exact ze (zg ⟨rfl,a⟩)
   ·exact zg ⟨c,a⟩
   ·exact ze (ze q)
theorem C5:∀(a:List zj) {ns:List ByteArray},y5 ns->y5 (a.foldl ut ns)/\∀y,y∈a.foldl ut ns↔(∃l∈a,y∈l.args/\zO y=false)∨y∈ns
 |[],ns,h=>⟨h,fun y=>by simp⟩
 |l::a,ns,h=>by
  obtain⟨f,d⟩:=ic l.args h;obtain⟨c,e⟩:=C5 a (ns:=ut ns l) f;refine⟨c,fun y=>?_⟩;have b:∀y,y∈ut ns l↔(y∈l.args/\zO y=false)∨y∈ns:=d;rw[un,e,b];simp only[zu,exists_eq_or_imp];constructor
  ·rintro(q|q|q)
   ·exact zg (ze q)
   ·exact zg (zg q)
   ·exact ze q
  ·rintro((q|q)|q)
   ·exact ze (zg q)
   ·exact zg q
   ·exact ze (ze q)
theorem Aj:∀(cs:List zc) {ns:List ByteArray},y5 ns->y5 (cs.foldl vZ ns)/\∀y,y∈cs.foldl vZ ns↔(∃c∈cs,∃l∈zl c,y∈l.args/\zO y=false)∨y∈ns
 |[],ns,h=>⟨h,fun y=>by simp⟩
 |c::cs,ns,h=>by
  obtain⟨j,i⟩:=ic c.head.args h;obtain⟨e,d⟩:=C5 c.body (ns:=ut ns c.head) j;obtain⟨f,g⟩:=Aj cs (ns:=vZ ns c) e;refine⟨f,fun y=>?_⟩;have a:∀y,y∈ut ns c.head↔(y∈c.head.args/\zO y=false)∨y∈ns:=i;have b:∀y,y∈vZ ns c↔(∃l∈c.body,y∈l.args/\zO y=false)∨y∈ut ns c.head:=d;rw[un,g,b,a];simp only[zu,exists_eq_or_imp,zl];constructor
  ·rintro(q|q|q|q)
   ·exact zg (ze q)
   ·exact zg (zg (ze q))
   ·exact zg (zg (zg q))
   ·exact ze q
  ·rintro(((q|q)|q)|q)
   ·exact ze (ze (zg q))
   ·exact ze (zg q)
   ·exact zg q
   ·exact ze (ze (ze q))
theorem fZ(cs:List zc):y5 (zp cs)/\∀y,y∈zp cs↔∃c∈cs,∃l∈zl c,y∈l.args/\zO y=false:=by
 obtain⟨b,a⟩:=Aj cs (ns:=[]) List.Pairwise.nil;exact⟨b,fun y=>by rw[show zp cs=cs.foldl vZ [] from rfl,a];simp⟩
end
end Go.Proofs.YteampbddflhngaaGreat
