import Derived.Test.YteampbddflhngaaGreatZ05
import Derived.Test.YteampbddflhngaaGreatZ18
import Derived.Test.YteampbddflhngaaGreatZ20
import Derived.Test.YteampbddflhngaaGreatZ21
namespace Go.Proofs.YteampbddflhngaaGreat
set_option linter.all false
set_option maxRecDepth 100000
set_option maxHeartbeats 4000000
section
open Go.Proofs.Tryz Go.RowKit
variable {lo:Nat}
def vK(a:List Nat)(x:Int×Nat):List Nat:=if 0<=x.1/\x.1<5 then a.set x.1.toNat x.2 else a
def yD(os:List Int):List Nat:=os.zipIdx.foldl vK [0,1,2,3,4]
theorem N7(a:List Nat)(x:Int×Nat):(vK a x).length=a.length:=by unfold vK;split<;>simp
theorem tm(os:List Int):(yD os).length=5:=by
 have:∀(l:List (Int×Nat)) (a:List Nat),(l.foldl vK a).length=a.length:=by
  intro l;induction l with
  |nil=>intro a;rfl
  |cons x l b=>intro a;rw[ut,b,N7]
 exact this _ _
theorem CB{os:List Int}{k:Nat}(a:k<os.length):(os.take (k+1)).zipIdx.foldl vK [0,1,2,3,4]=vK ((os.take k).zipIdx.foldl vK [0,1,2,3,4]) (os[k],k):=by
 rw[yM a,List.zipIdx_append,j7];simp only[List.zipIdx_singleton,qt,vz,ut,List.foldl_nil];rw[dP (by omega)]
def kj(b:Value)(a:List Nat):List Value:=b::a.map Rj
theorem BJ(b:Value)(a:List Nat)(k x:Nat):(kj b a).toArray.setIfInBounds (1+k) (ι x)=(kj b (a.set k x)).toArray:=by
 rw[Nat.add_comm];simp[kj,List.map_set,Rj]
def lA(k:Nat):List Nat:=(List.range 5).map fun i=>if i<k then i else 0
theorem Hi(k:Nat)(a:k<5):(lA k).set k k=lA (k+1):=by
 obtain rfl|rfl|rfl|rfl|rfl:k=0∨k=1∨k=2∨k=3∨k=4:=by omega
 all_goals rfl
theorem Dc{w:World}{a:Nat}{g:Value}{b:List Nat}(d:b.length=5)(h:Q6 w a (kj g b).toArray 257):a<w.heap.size/\(∀o,w.frozen? ⟨a,o,none⟩=false)/\∀k,k<5->∃x:Nat,w.cell? ⟨a,1+k,none⟩=some (ι (x:Nat)):=by
 obtain⟨c,e⟩:=h.rules;refine⟨h.lt,e,fun k f=>⟨b[k]'(by omega),?_⟩⟩;rw[c,Nat.add_comm];simp[kj,d,f,Rj]
def Mr(w:World)(vs:κ)(b:List Nat)(e:Ending)(w':World):Prop:=∃a,e=ε (.agg (kj a b).toArray)/\QD w.heap.size w' a vs/\μ w w'
theorem PI(w:World)(c:zd)(va vb ov:Value)(o:Option (List Int))(hs:QD lo w va c.head.args)(T:Re lo w vb c.body)(hl:c.head.args.length+yU c.body<=1000)(O:c.body.length<=1000)(ho:uF w ov o)(am:(o.getD []).length<=1000):
  Calls prog 158 #[.agg #[.bool c.head.neg,.string c.head.pred,va,vb],ov] w fun e w'=>Mr w (zw c) (yD (o.getD [])) e w':=by
 obtain⟨ao,ad,rfl⟩:=hs.qx;obtain⟨aa,L,rfl⟩:=T.qx;obtain⟨ai,ae,rfl⟩:=ho.qx;have HP:=Q5 fun W hW=>wV W c _ _ (hs.below hW) (T.below hW) hl O;have HO:=Q5 ho;clear hs T hl O ho;go_enter func158,ntmps158;go_upto_region 2 with (go_at_call 148;refine(HP.out _ (by exact(by go_grown))).mono ?_;rintro e z ⟨D,rfl,t,F⟩;obtain⟨l,d,rfl⟩:=zp t)
 have E:μ w z:=zQ (by go_grown) F (zg _);have aj:=E.size;have I:QD w.heap.size z (.slice l (zw c).length d) (zw c):=yr t (by simp;omega);have B:=(Q6.new (w.alloc (.cells #[.bool c.head.neg,.string c.head.pred,.slice ao c.head.args.length ad,.slice aa c.body.length L] 171)) #[ν,ι 0,ι 0,ι 0,ι 0,ι 0] 257).below F;rw[World.size_alloc] at B;have ah:=B.lt;have a:=Q6.new z (kj (.slice l (zw c).length d) (lA 0)).toArray 257;have u:μ z (z.alloc (.cells (kj (.slice l (zw c).length d) (lA 0)).toArray 257)):=(by go_grown);have j:=I.below u;have h:=B.below u;have b:=Q9 E u;rw[show(kj (.slice l (zw c).length d) (lA 0)).toArray=#[.slice l (zw c).length d,ι 0,ι 0,ι 0,ι 0,ι 0] from rfl] at j h b;rw[show(z.alloc (.cells (kj (.slice l (zw c).length d) (lA 0)).toArray 257))=(z.alloc (.cells #[.slice l (zw c).length d,ι 0,ι 0,ι 0,ι 0,ι 0] 257)) from rfl] at a;clear t F B I HP u;generalize G:zw c=vs at *;have ac:=Q5 G;clear G;generalize A:Value.slice l vs.length d=D at *;generalize z.alloc (.cells #[D,ι 0,ι 0,ι 0,ι 0,ι 0] 257)=w2 at *;generalize z.heap.size=sb at *;clear E z;have R:=Q5 A;clear A;go_wp2;go_loopw [12] (fun V wr=>∃k:Nat,k<=5/\V=ι k/\Q6 wr sb (kj D (lA k)).toArray 257/\Q6 wr (w.heap.size+1) #[ν,ι 0,ι 0,ι 0,ι 0,ι 0] 257/\QD w.heap.size wr D vs/\μ w wr) (fun i _=>5-(intOf i).toNat)
 case atStart=>exact⟨0,by omega,rfl,a,h,j,b⟩
 case round=>
  clear a h j b;obtain⟨k,hk,rfl,a,h,j,b⟩:=hrel;have M:=b.size;by_cases r:k<5
  ·have af:(k:Int)<5:=by omega
   obtain⟨N,H,s⟩:=Dc (by simp[lA]) a;obtain⟨x,hx⟩:=s k r;have m:=a.set (1+k) (ι k);rw[BJ,Hi k r] at m;clear s;go_wp2;go_roundw
   case rel=>exact⟨k+1,by omega,by go_num,m,h.set_ne (by omega) _ _,xO j ((QH.refl _ _).setCell _ _) a (by decide),b.setCell (by simp;omega) _⟩
   case measure=>simp[intOf];omega
  ·obtain rfl:k=5:=by omega
   clear hk r;have HF:Hid (lA 5=((o.getD []).take 0).zipIdx.foldl vK [0,1,2,3,4]):=rfl;rw[HF.out] at a;clear HF;go_wp2;go_loopw [22] (fun Q wr=>∃k:Nat,k<=(o.getD []).length/\Q=ι k/\Q6 wr sb (kj D (((o.getD []).take k).zipIdx.foldl vK [0,1,2,3,4])).toArray 257/\Q6 wr (w.heap.size+1) #[ν,ι 0,ι 0,ι 0,ι 0,ι 0] 257/\QD w.heap.size wr D vs/\μ w wr) (fun i _=>(o.getD []).length-(intOf i).toNat)
   case atStart=>exact⟨0,by omega,rfl,a,h,j,b⟩
   case round=>
    clear a h j b M;obtain⟨k,hk,rfl,a,h,j,b⟩:=hrel;have M:=b.size;have K:(((o.getD []).take k).zipIdx.foldl vK [0,1,2,3,4]).length=5:=tm _;by_cases r:k<(o.getD []).length
    ·obtain⟨g,f,rfl,hg,hc⟩:=HO.out.cell k r;have an:=zl b hg hc;have u:g<wr.heap.size:=by omega
     have C:=Q5 (CB r);clear hc;generalize (o.getD [])[k]=x at *;generalize ((o.getD []).take k).zipIdx.foldl vK [0,1,2,3,4]=pl at *;by_cases p:0<=x/\x<5
     ·obtain⟨n,rfl⟩:=Int.eq_ofNat_of_zero_le p.1;have al:=p.2;have hn:n<5:=by omega
      obtain⟨N,H,s⟩:=Dc K a;obtain⟨y,hy⟩:=s n hn;have m:=a.set (1+n) (ι k);rw[BJ] at m;have q:Hid (((o.getD []).take (k+1)).zipIdx.foldl vK [0,1,2,3,4]=pl.set n k):=by rw[Hid,C.out,vK,zc p];rfl
      clear s C p;go_wp2;go_roundw
      case rel=>exact⟨k+1,by omega,by go_num,by rw[q.out];exact m,h.set_ne (by omega) _ _,xO j ((QH.refl _ _).setCell _ _) a (by decide),b.setCell (by simp;omega) _⟩
      case measure=>simp[intOf];omega
     ·have q:Hid (((o.getD []).take (k+1)).zipIdx.foldl vK [0,1,2,3,4]=pl):=by rw[Hid,C.out,vK,za p]
      clear C;rcases Int.lt_or_le x 0 with h0|h0
      ·clear p;go_wp2;exact⟨⟨_,_,_,⟨k+1,by omega,by go_num,by rw[q.out];exact a⟩,rfl,rfl,rfl⟩,by simp[intOf];omega⟩
      ·have h5:5<=x:=by omega
       clear p;go_wp2;go_roundw
       case rel=>exact⟨k+1,by omega,by go_num,by rw[q.out];exact a,h,j,b⟩
       case measure=>simp[intOf];omega
    ·have J:Hid (((o.getD []).take k).zipIdx.foldl vK [0,1,2,3,4]=yD (o.getD [])):=by rw[Hid,xh (by omega)];rfl
     rw[J.out] at a;have H5:=tm (o.getD []);generalize P:yD (o.getD [])=pl at *;obtain⟨U,Z,Y,X,p4,rfl⟩:=five H5;have ab:=Q5 P;clear P;rw[show(kj D [U,Z,Y,X,p4]).toArray=#[D,ι U,ι Z,ι Y,ι X,ι p4] from rfl] at a;obtain⟨s,H,N⟩:=a.boxed;obtain⟨S,ag,ak⟩:=h.boxed;have A:=R.out;subst A;clear K H5 J;go_wp2
     (try simp only[Exit.inBlock,Exit.then])
     refine zL (v:=.agg (kj (.slice l vs.length d) [U,Z,Y,X,p4]).toArray) (by simp[results,results158,go_sem,S,kj,Rj]) rfl ⟨_,by rw[ab.out],?_,?_⟩
     ·rw[ac.out];exact xO j (by repeat'(first|with_reducible(first|apply xR|assumption|apply xN|apply xA|apply xD|apply xS|apply xT)|go_size)) h (by decide)
     ·exact(((((b.setCell (by simp) _).setCell (by simp) _).setCell (by simp) _).setCell (by simp) _).setCell (by simp) _).setCell (by simp) _
def xV(os:Option (List (Option (List Int))))(k:Nat):Option (List Int):=(os.getD []).getD k none
theorem FT(w:World)(c:Value)(os:Option (List (Option (List Int))))(k:Nat)(h:jC w c os)(d:(os.getD []).length<=2000000):
  Calls prog 116 #[c,ι k] w fun e j=>∃u,e=.returned u/\uF w u (xV os k)/\j=w:=by
 obtain⟨p,i,rfl⟩:=h.qx;by_cases b:k<(os.getD []).length
 ·obtain⟨g,f,u,rfl,o,n,l⟩:=h.cell k b;have a:Hid (xV os k=(os.getD [])[k]):=by simp[Hid,xV,b]
  have m:=Q5 l;go_enter func116,ntmps116;go_wp2;go_ret;exact⟨_,rfl,by rw[a.out];exact m.out,rfl⟩
 ·have a:Hid (xV os k=none):=by simp[Hid,xV,List.getD_eq_getElem?_getD,List.getElem?_eq_none (Nat.not_lt.1 b)]
  go_enter func116,ntmps116;go_wp2;go_ret;exact⟨_,rfl,by rw[a.out];rfl,rfl⟩
def vP(t:List zh)(ns:κ)(c:zd):jx:=⟨zP t c.head.pred,zF (zK t ns [] [0,0,0,0,0] c.head) [0,0,0,0,0]⟩
def Bw(f:jx):Value:=.agg #[ι f.pred,ι (f.row.getD 0 0:Nat),ι (f.row.getD 1 0:Nat),ι (f.row.getD 2 0:Nat)]
theorem Pw{A:Nat}(w:World)(K tb o V:Nat)(t:List zh)(ns:κ)(c:zd)(va vb:Value)(h:mT lo w K tb o V t ns)(hs:QD A w va c.head.args)(Z:Re A w vb c.body)(J:c.head.args.length<=1000):
  Calls prog 118 #[(π K),.agg #[.bool c.head.neg,.string c.head.pred,va,vb]] w fun e n=>e=ε (Bw (vP t ns c))/\μ w n:=by
 obtain⟨U,E,rfl⟩:=hs.qx;obtain⟨q,g,rfl⟩:=Z.qx;have HL:=Q5 fun W sb (O:μ w W) (b:g5 0 W sb [] [0,0,0,0,0])=>CS W K tb o V sb t ns [] [0,0,0,0,0] c.head _ (h.below O) b (by simp) (by simp) (hs.below O) J;have HR:Hid (∀W v (T:Nat),yh T W v (zK t ns [] [0,0,0,0,0] c.head).qg->Calls prog 161 #[.agg #[ι (zP t c.head.pred:Nat),v],rh 0 0 0 0 0] W fun r n=>r=ε (.agg #[ι (((vP t ns c).row.getD 0 0:Nat):Int),ι (((vP t ns c).row.getD 1 0:Nat):Int),ι (((vP t ns c).row.getD 2 0:Nat):Int)])/\μ W n):=fun W v T F=>eS W v (zP t c.head.pred) _ 0 0 0 0 0 F;have HE:Hid (Bw (vP t ns c)=.agg #[ι (zP t c.head.pred:Nat),ι ((vP t ns c).row.getD 0 0:Nat),ι ((vP t ns c).row.getD 1 0:Nat),ι ((vP t ns c).row.getD 2 0:Nat)]):=rfl;clear h hs Z;have b:=Q6.new ((w.alloc (.cells #[.bool c.head.neg,.string c.head.pred,.slice U c.head.args.length E,.slice q c.body.length g] 171)).alloc (.cells #[ι 0,ι 0,ι 0,ι 0] 210)) #[ν,ι 0,ι 0,ι 0,ι 0,ι 0] 257;have j:=(Q6.new (w.alloc (.cells #[.bool c.head.neg,.string c.head.pred,.slice U c.head.args.length E,.slice q c.body.length g] 171)) #[ι 0,ι 0,ι 0,ι 0] 210).below ((zo _ _).alloc (zg _) (.cells #[ν,ι 0,ι 0,ι 0,ι 0,ι 0] 257));simp only[World.size_alloc] at b j;generalize (vP t ns c).row.getD 0 0=x at *;generalize (vP t ns c).row.getD 1 0=y at *;generalize (vP t ns c).row.getD 2 0=z at *;generalize (zK t ns [] [0,0,0,0,0] c.head).qg=C at *;generalize zP t c.head.pred=p at *;go_enter func118,ntmps118;go_upto_region 3 with (go_at_call 160;refine(HL.out _ _ (by exact(by go_grown)) (by exact⟨_,0,0,0,0,0,rfl,b,QD.nil _⟩)).mono ?_;rintro e i ⟨tv,rfl,F,l⟩;obtain⟨d,a,rfl⟩:=F.qx)
 have u:μ w i:=zQ (by go_grown) l (zg _);have m:=j.below l;clear b j HL;have ac:=m.lt;have f:μ i (i.alloc (.cells #[ι p,.slice d C.length a] 204)):=(by go_grown);have B:=Q6.new i #[ι p,.slice d C.length a] 204;have I:=m.below f;have G:Hid (yh _ _ _ C):=F.below f;have D:=Q9 u f;clear F m l f;generalize i.alloc (.cells #[ι p,.slice d C.length a] 204)=w2 at *;generalize i.heap.size=P at *;clear u i;obtain⟨R,N,Q⟩:=B.boxed;have ab:=D.size;go_region_held3 (fun n=>n.cell? ⟨P,0,none⟩=some (ι p)/\n.cell? ⟨P,1,none⟩=some (.slice d C.length a)) (first|go_keep|(go_simp;done)) (go_at_call 161;refine(HR.out _ _ _ (by exact G.out.below (by go_grown))).mono ?_;rintro e w3 ⟨rfl,H⟩;have k:μ w2 w3:=(zQ (by go_grown) H (zg _));have L:=B.below k;have M:=I.below k;obtain⟨aa,X⟩:=L.rules;obtain⟨s,Y,S⟩:=M.boxed)
 all_goals
  go_wp2
  (try simp only[Exit.inBlock,Exit.then])
  exact zL (v:=.agg #[ι p,ι x,ι y,ι z]) (by simp[results,results118,go_sem,s]) rfl ⟨by rw[HE.out],((((Q9 D k).setCell (by simp) _).setCell (by simp) _).setCell (by simp) _).setCell (by simp) _⟩
end
section
open Go.Proofs.Tryz Go.RowKit
variable {lo:Nat}{w0 w:World}{rb rr sb st va hp:Nat}{htv plv nlv v':Value}{ht:List zZ}{pls nls:List zu}{vs:κ}{pl:List Nat}
theorem Qz:(prog.info? 204).map (fun i=>(i.zero,i.size,i.bytes))=some (some (.agg #[ι 0,ν]),2,32):=by kernel_rfl
def vo(t:List zh)(ns:κ)(c:zd)(o:Option (List Int)):zr:=
 {qh:=xt t c.head.pred,vars:=(zw c).length,head:=zK t ns (zw c) (yD (o.getD [])) c.head,qc:=(c.body.filter fun l=>!l.neg).map (zK t ns (zw c) (yD (o.getD []))),qp:=(c.body.filter fun l=>l.neg).map (zK t ns (zw c) (yD (o.getD [])))}
theorem Gc(ps:List (Nat×Value))(x:Nat×Value):gR (ps++[x])=gR ps++[ι (x.1:Nat),x.2]:=by simp[gR]
structure kB (B:Nat) (w0 w:World) (rb rr sb st va hp:Nat) (htv plv nlv:Value) (ht:List zZ) (pls nls:List zu) (vs:κ) (pl:List Nat):Prop where
 box:Q6 w rb #[ι st,ι va,ι hp,htv,plv,nlv] 207
 res:Q6 w rr #[ι 0,ι 0,ι 0,ν,ν,ν] 207
 scope:g5 B w sb vs pl
 head:yh B w htv ht
 pln:uc B w plv pls
 nln:uc B w nlv nls
 apart:∀b,plv.ownBlock=some b->nlv.ownBlock≠some b
 below:Below B w0 w
 low:B<=rb/\B<=rr/\rb≠rr
theorem kB.next{B:Nat}{w':World}(h:kB B w0 w rb rr sb st va hp htv plv nlv ht pls nls vs pl)(a:μ w w')(b:B<=w0.heap.size):kB B w0 w' rb rr sb st va hp htv plv nlv ht pls nls vs pl:=
 ⟨h.box.below a,h.res.below a,h.scope.below a,h.head.below a,h.pln.below a,h.nln.below a,h.apart,zQ h.below a b,h.low⟩
theorem g5.saveT{b:Nat}{w w':World}{sb:Nat}{vs:κ}{pl:List Nat}{T:TypeId}{M:List Nat}(h:g5 b w sb vs pl)(hs:ze M w w')(a:QS w T M)(g:257≠T)(j:9≠T):g5 b w' sb vs pl:=by
 obtain⟨l,d,n,c,f,m,i,k,e⟩:=h;exact⟨l,d,n,c,f,m,i,k.saveT hs a g,yG e hs a j⟩
theorem uc.push{e:Nat}{w':World}{v:Value}{c:List zu}{ps:List (Nat×Value)}{l:zu}{tv:Value}(i:w.ownsRow e 204 2 v c.length (gR ps))(g:ps.length=c.length)(h:∀k (i:k<c.length) (g:k<ps.length),ps[k].1=c[k].pred/\yh e w ps[k].2 c[k].qg/\c[k].pred<=1000000)(n:c.length+1<=1000)(o:yh e w tv l.qg)(hp:l.pred<=1000000)
  (m:w'.ownsRow e 204 2 v' (c.length+1) (gR ps++[ι l.pred,tv])) (hs:ze v.ownBlock.toList w w'):uc e w' v' (c++[l]):=by
 have j:=QS.own i;refine⟨ps++[(l.pred,tv)],by rw[Gc,yp];exact m,by simp[g],by simpa using n,fun k a b=>?_⟩;by_cases f:k<c.length
 ·have d:k<ps.length:=by omega
  rw[vq f,vq d];exact⟨(h k f d).1,(h k f d).2.1.saveT hs j (by decide),(h k f d).2.2⟩
 ·obtain rfl:k=c.length:=by simp at a;omega
  simp only[←g,rM];exact⟨trivial,o.saveT hs j (by decide),hp⟩
theorem kB.pushP{B:Nat}{l:World}{d:List zu}(h:kB B w0 w rb rr sb st va hp htv plv nlv ht pls nls vs pl)(hs:ze plv.ownBlock.toList w l)(m:v'.ownBlock=plv.ownBlock∨∃g,v'.ownBlock=some g/\w.heap.size<=g)(u:uc B l v' d)(r:B<=w.heap.size):kB B w0 (l.setCell ⟨rb,4,none⟩ v') rb rr sb st va hp htv v' nlv ht d nls vs pl:=by
 obtain⟨z,o,_⟩:=h.pln;have k:=QS.own o;have i:=h.box.saveT hs k (by decide);have a:=QS.box i;have c:ze [rb] l (l.setCell ⟨rb,4,none⟩ v'):=ze.set _ _ _ _;have p:=i.set 4 v';have n:=h.nln.saveT hs k (by decide) fun b f t=>h.apart b (yt t) f;refine⟨by simpa using p,(h.res.saveT hs k (by decide)).set_ne (Ne.symm h.low.2.2) _ _,(h.scope.saveT hs k (by decide) (by decide)).saveT c a (by decide) (by decide),(h.head.saveT hs k (by decide)).saveT c a (by decide),u.saveTT c a (by decide) (by decide),n.saveTT c a (by decide) (by decide),fun b f j=>?_,?_,h.low⟩
 ·obtain⟨s,q,_⟩:=h.nln;have y:=xK q j;rcases m with e|⟨g,e,A⟩
  ·rw[e] at f;exact h.apart b f j
  ·rw[e] at f;simp only[zt] at f;omega
 ·exact(h.below.trans (hs.below (fun x v=>yW o (yt v)) r)).setCell h.low.1 _
theorem kB.pushN{B:Nat}{k:World}{f:List zu}(h:kB B w0 w rb rr sb st va hp htv plv nlv ht pls nls vs pl)(hs:ze nlv.ownBlock.toList w k)(n:v'.ownBlock=nlv.ownBlock∨∃g,v'.ownBlock=some g/\w.heap.size<=g)(u:uc B k v' f)(r:B<=w.heap.size):kB B w0 (k.setCell ⟨rb,5,none⟩ v') rb rr sb st va hp htv plv v' ht pls f vs pl:=by
 obtain⟨z,o,_⟩:=h.nln;have j:=QS.own o;have i:=h.box.saveT hs j (by decide);have c:=QS.box i;have d:ze [rb] k (k.setCell ⟨rb,5,none⟩ v'):=ze.set _ _ _ _;have p:=i.set 5 v';have m:=h.pln.saveT hs j (by decide) fun b l t=>h.apart b l (yt t);refine⟨by simpa using p,(h.res.saveT hs j (by decide)).set_ne (Ne.symm h.low.2.2) _ _,(h.scope.saveT hs j (by decide) (by decide)).saveT d c (by decide) (by decide),(h.head.saveT hs j (by decide)).saveT d c (by decide),m.saveTT d c (by decide) (by decide),u.saveTT d c (by decide) (by decide),fun b l a=>?_,?_,h.low⟩
 ·obtain⟨s,q,_⟩:=h.pln;have y:=xK q l;rcases n with e|⟨g,e,A⟩
  ·rw[e] at a;exact h.apart b l a
  ·rw[e] at a;simp only[zt] at a;omega
 ·exact(h.below.trans (hs.below (fun x v=>yW o (yt v)) r)).setCell h.low.1 _
theorem iq{α:Type}(p:α->Bool)(l:List α)(k:Nat)(a:k<l.length):(l.take (k+1)).filter p=(l.take k).filter p++(if p l[k] then [l[k]] else []):=by
 rw[yM a,r8];congr 1;cases h:p l[k]<;>simp[h]
theorem DH(t:List zh)(n:ByteArray):zP t n<=t.length:=by
 unfold zP;split
 ·exact ia t n
 ·omega
theorem Gj(os:List Int)(h:os.length<=1000):∀y∈yD os,y<=1000:=by
 have:∀(l:List (Int×Nat)) (pl:List Nat),(∀x∈l,x.2<=1000)->(∀y∈pl,y<=1000)->∀y∈l.foldl vK pl,y<=1000:=by
  intro l;induction l with
  |nil=>intro pl _ h;exact h
  |cons x l e=>
   intro pl b c;refine e _ (fun y a=>b y (pg _ a)) fun y a=>?_;unfold vK at a;split at a
   ·rcases p3 a with q|q
    ·exact c y q
    ·subst q;exact b x (by simp)
   ·exact c y a
 refine this _ _ (fun x d=>?_) (by decide);have:=List.snd_lt_of_mem_zipIdx d;omega
def Ip(w:World)(r:zr)(e:Ending)(w':World):Prop:=∃c a b,e=ε (kL r c a b)/\vm w.heap.size w' c a b r/\μ w w'
theorem Kw{ap:Nat}(w:World)(mb tb o cb:Nat)(t:List zh)(ns:κ)(c:zd)(va vb ov:Value)(R:Option (List Int))(h:mT lo w mb tb o cb t ns)(hs:QD ap w va c.head.args)(hb:Re ap w vb c.body)(hl:c.head.args.length+yU c.body<=1000)(ci:c.body.length<=900)(ho:uF w ov R)(b4:(R.getD []).length<=1000)(bN:xt t c.head.pred<=1000000):
  Calls prog 117 #[(π mb),.agg #[.bool c.head.neg,.string c.head.pred,va,vb],ov] w fun e S=>Ip w (vo t ns c R) e S:=by
 obtain⟨i0,hi,bo,bE,bp⟩:=info_parts Qz;obtain⟨ao,aV,rfl⟩:=hs.qx;obtain⟨aS,am,rfl⟩:=hb.qx;obtain⟨bM,bk,rfl⟩:=ho.qx;have b8:=Q5 fun W H=>PI W c _ _ _ R (hs.below H) (hb.below H) hl (by omega) (ho.below H) b4;have bC:=tR c.body [];have bW:(zw c).length<=1000:=by unfold zw;simp at bC;omega
 clear bC;have aI:Hid (∀W sb (l:zj) (va:Value) (b1 b2:Nat),μ w W->g5 b1 W sb (zw c) (yD (R.getD []))->QD b2 W va l.args->l.args.length<=1000->Calls prog 160 #[(π mb),.agg #[.bool l.neg,.string l.pred,va],(π sb)] W fun e S=>∃tv,e=ε (.agg #[ι (zP t l.pred:Nat),tv])/\yh W.heap.size S tv (zK t ns (zw c) (yD (R.getD [])) l).qg/\μ W S):=fun W sb l va b1 b2 H bS bL bV=>CS W mb tb o cb sb t ns _ _ l _ (h.below H) bS bW (Gj _ b4) bL bV;have b7:=Q5 fun W H=>MB lo W tb o t c.head.pred (h.2.1.below H) h.2.2.2.1;have bd:=Q5 h.2.2.2.1;have bI:=h.1;obtain⟨bs,cj,bJ⟩:=bI.boxed;have bQ:w.cell? ⟨mb,0,none⟩=some (.pointer (some ⟨tb,o,none⟩)):=by rw[bs];rfl
 have bP:=Q5 hs;have bO:=Q5 hb;have HE:Hid (vo t ns c R={qh:=xt t c.head.pred,vars:=(zw c).length,head:=zK t ns (zw c) (yD (R.getD [])) c.head,qc:=(c.body.filter fun l=>!l.neg).map (zK t ns (zw c) (yD (R.getD []))),qp:=(c.body.filter fun l=>l.neg).map (zK t ns (zw c) (yD (R.getD [])))}):=rfl;have H5:Hid ((yD (R.getD [])).length=5):=tm _;clear h hs hb ho bs;generalize zw c=vs at *;generalize yD (R.getD [])=pl at *;generalize xt t c.head.pred=st at *;generalize (yo t c.head.pred).isSome=cm at *;obtain⟨d,m,j,f,n,rfl⟩:=five H5.out;have aD:Hid (∀W,μ w W->Calls prog 158 #[.agg #[.bool c.head.neg,.string c.head.pred,.slice ao c.head.args.length aV,.slice aS c.body.length am],.slice bM (R.getD []).length bk] W fun e S=>∃nv,e=ε (.agg #[nv,ι d,ι m,ι j,ι f,ι n])/\QD W.heap.size S nv vs/\μ W S):=b8;clear b8 H5;go_enter func117,ntmps117;go_upto_region 2 with (go_at_call 158;refine(aD.out _ (by exact(by go_grown))).mono ?_;rintro e w1 ⟨nv,rfl,aX,ax⟩;obtain⟨aH,aq,rfl⟩:=aX.qx)
 have bq:μ w w1:=zQ (by go_grown) ax (zg _);have a0:=((Q6.new w #[.bool c.head.neg,.string c.head.pred,.slice ao c.head.args.length aV,.slice aS c.body.length am] 171).below ((zo _ _).alloc (zg _) (.cells #[ι 0,ι 0,ι 0,ν,ν,ν] 207))).below ax;have N:=(Q6.new (w.alloc (.cells #[.bool c.head.neg,.string c.head.pred,.slice ao c.head.args.length aV,.slice aS c.body.length am] 171)) #[ι 0,ι 0,ι 0,ν,ν,ν] 207).below ax;rw[World.size_alloc] at N;have aE:=aX.low (show w.heap.size<=_ by simp;omega);have u:μ w1 (w1.alloc (.cells #[.slice aH vs.length aq,ι d,ι m,ι j,ι f,ι n] 257)):=(by go_grown);have a8:=Q6.new w1 #[.slice aH vs.length aq,ι d,ι m,ι j,ι f,ι n] 257;have au:=a0.below u;have a5:=N.below u;have aF:=aE.below u;have p:=Q9 bq u;have ch:=N.lt;clear a0 N aE aX ax u;generalize w1.alloc (.cells #[.slice aH vs.length aq,ι d,ι m,ι j,ι f,ι n] 257)=V at *;generalize w1.heap.size=sb at *;clear bq w1;obtain⟨ah,af,F⟩:=au.boxed;have bF:=zl p bJ bQ;have aK:=p.size;have bi:mb<V.heap.size:=by omega
 go_quiet ((go_at_call 159;exact Calls.quiet_of_same (b7.out _ (by exact(zJ p _)))))
 clear aD b7 bF ah af F aK bi;have hq:μ V (V.drewN nq):=zJ (zo _ _) nq;have a1:=au.below hq;have aA:=a5.below hq;have ae:=aF.below hq;have L:=a8.below hq;have aT:=Q9 p hq;clear hq au a5 aF a8 p;generalize V.drewN nq=w3 at *;clear V nq;have cn:=aT.size;obtain⟨ay,bx,bb⟩:=L.boxed;go_upto_region 4 with (go_at_call 146;refine(es _ _ _ vs (by rw[ay];rfl) ae).mono ?_;rintro e w4 ⟨rfl,bT⟩;obtain rfl:=bT.symm)
 clear ay bx bb;have u:μ w3 (w3.alloc (.cells #[ι st,ι vs.length,ι 0,ν,ν,ν] 207)):=(by go_grown);have a7:=Q6.new w3 #[ι st,ι vs.length,ι 0,ν,ν,ν] 207;have X:=a1.below u;have a6:=aA.below u;have a2:=ae.below u;have aC:=L.below u;have an:=Q9 aT u;have cd:=L.lt;clear a1 aA ae L u;generalize w3.alloc (.cells #[ι st,ι vs.length,ι 0,ν,ν,ν] 207)=w4 at *;generalize w3.heap.size=rb at *;clear aT w3;have bg:=an.size;obtain⟨ah,af,F⟩:=X.boxed;have ag:Hid (g5 w.heap.size w4 sb vs [d,m,j,f,n]):=⟨_,d,m,j,f,n,rfl,aC,a2⟩;go_upto_region 5 with (go_at_call 160;refine(aI.out _ _ c.head _ _ _ (by exact an) (by exact ag.out) (by exact bP.out.below an) (by omega)).mono ?_;rintro e w5 ⟨tv,rfl,ab,U⟩;obtain⟨A,s,rfl⟩:=ab.qx;have M:=a7.below U;obtain⟨b9,b3,bn⟩:=M.boxed)
 have b0:yh w.heap.size w5 _ _:=⟨yr ab.own bg,ab.len,ab.num⟩;have aj:rb≠w.heap.size+1:=by omega
 have hM:kB w.heap.size w ((w5.setCell ⟨rb,2,none⟩ (ι (zP t c.head.pred:Nat))).setCell ⟨rb,3,none⟩ (.slice A (zK t ns vs [d,m,j,f,n] c.head).qg.length s)) rb (w.heap.size+1) sb st vs.length (zP t c.head.pred) (.slice A (zK t ns vs [d,m,j,f,n] c.head).qg.length s) (ν) (ν) (zK t ns vs [d,m,j,f,n] c.head).qg [] [] vs [d,m,j,f,n]:=by
  have bh:ze [rb] w5 ((w5.setCell ⟨rb,2,none⟩ (ι (zP t c.head.pred:Nat))).setCell ⟨rb,3,none⟩ (.slice A (zK t ns vs [d,m,j,f,n] c.head).qg.length s)):=(ze.set _ _ _ _).trans (ze.set _ _ _ _);have aZ:=QS.box M;have hq:=(M.set 2 (ι (zP t c.head.pred:Nat))).set 3 (.slice A (zK t ns vs [d,m,j,f,n] c.head).qg.length s);refine⟨by simpa using hq,((a6.below U).set_ne (Ne.symm aj) _ _).set_ne (Ne.symm aj) _ _,(ag.out.below U).saveT bh aZ (by decide) (by decide),b0.saveT bh aZ (by decide),⟨[],yC _ _ _ _,rfl,by simp,fun k a=>by simp at a⟩,⟨[],yC _ _ _ _,rfl,by simp,fun k a=>by simp at a⟩,fun b hb=>by simp[Value.ownBlock] at hb,((Q9 an U).setCell (by simp;omega) _).setCell (by simp;omega) _,by omega,by omega,aj⟩
 have az:=((X.below U).set_ne (show w.heap.size≠rb by omega) 2 (ι (zP t c.head.pred:Nat))).set_ne (show w.heap.size≠rb by omega) 3 (.slice A (zK t ns vs [d,m,j,f,n] c.head).qg.length s);generalize (w5.setCell ⟨rb,2,none⟩ (ι (zP t c.head.pred:Nat))).setCell ⟨rb,3,none⟩ (.slice A (zK t ns vs [d,m,j,f,n] c.head).qg.length s)=w6 at *;clear M b9 b3 bn ab b0 U w5 ah af F ag bg an X a6 a2 aC a7 w4;generalize aw:Value.slice A (zK t ns vs [d,m,j,f,n] c.head).qg.length s=htv at *;have bR:=Q5 aw;clear aw;obtain⟨ah,af,F⟩:=az.boxed;go_wp2;clear ah af F az;have z:Hid (kB _ _ _ _ _ _ _ _ _ _ _ _ _ _ _ _ _):=hM;clear hM;go_loopw [40] (fun bU wr=>∃(k:Nat) (plv nlv:Value),k<=c.body.length/\bU=ι k/\Hid (kB w.heap.size w wr rb (w.heap.size+1) sb st vs.length (zP t c.head.pred) htv plv nlv (zK t ns vs [d,m,j,f,n] c.head).qg (((c.body.take k).filter fun l=>!l.neg).map (zK t ns vs [d,m,j,f,n])) (((c.body.take k).filter fun l=>l.neg).map (zK t ns vs [d,m,j,f,n])) vs [d,m,j,f,n])) (fun i _=>c.body.length-(intOf i).toNat)
 case atStart=>exact⟨0,_,_,zv _,rfl,z⟩
 case round=>
  clear z;obtain⟨k,plv,nlv,hk,rfl,z⟩:=hrel;have C:=z.out.below;have cg:=C.size;by_cases ai:k<c.body.length
  ·obtain⟨g,O,y,bH,hg,bc,bu,be,ba⟩:=bO.out.cell k ai;subst bH;have b5:c.body[k].args.length<=1000:=by
    have:=rm c.body k ai;rw[yq ai] at this;simp at this;omega
   have bB:=zl C hg bc;have ck:=zl C hg bu;have cl:=zl C hg be;have u:g<wr.heap.size:=by omega
   have Q:=iq (fun l:zj=>!l.neg) c.body k ai;have P:=iq (fun l:zj=>l.neg) c.body k ai;have bv:Hid (QD ap w _ _):=ba;have bK:=DH t c.body[k].pred;have bY:=bd.out;clear bc bu be ba;generalize c.body[k]=l at *;have ce:(((c.body.take k).filter fun l=>!l.neg).map (zK t ns vs [d,m,j,f,n])).length<=k:=by
    have:=p8 (fun l:zj=>!l.neg) (c.body.take k);simp at this ⊢;omega
   have ca:(((c.body.take k).filter fun l=>l.neg).map (zK t ns vs [d,m,j,f,n])).length<=k:=by
    have:=p8 (fun l:zj=>l.neg) (c.body.take k);simp at this ⊢;omega
   cases hn:l.neg with
   |false=>
    rw[hn] at bB;simp only[hn,Bool.not_false,if_true,gL,if_false,qQ] at Q P;have aN:Hid (((c.body.take (k+1)).filter fun l=>!l.neg).map (zK t ns vs [d,m,j,f,n])=((c.body.take k).filter fun l=>!l.neg).map (zK t ns vs [d,m,j,f,n])++[zK t ns vs [d,m,j,f,n] l]):=by rw[Hid,Q,uQ];rfl
    have aJ:Hid (((c.body.take (k+1)).filter fun l=>l.neg).map (zK t ns vs [d,m,j,f,n])=((c.body.take k).filter fun l=>l.neg).map (zK t ns vs [d,m,j,f,n])):=by rw[Hid,P]
    clear Q P;generalize ((c.body.take k).filter fun l=>!l.neg).map (zK t ns vs [d,m,j,f,n])=pls at *;generalize ((c.body.take k).filter fun l=>l.neg).map (zK t ns vs [d,m,j,f,n])=nls at *;have aO:Hid (∀W,μ wr W->Calls prog 160 #[(π mb),.agg #[.bool false,.string l.pred,.slice O l.args.length y],(π sb)] W fun e S=>∃tv,e=ε (.agg #[ι (zP t l.pred:Nat),tv])/\yh W.heap.size S tv (zK t ns vs [d,m,j,f,n] l).qg/\μ W S):=fun W H=>by
     have q:=aI.out W sb l (.slice O l.args.length y) w.heap.size ap (Q9 C H) (z.out.scope.below H) (bv.out.below (Q9 C H)) b5;rw[hn] at q;exact q
    generalize ak:(zK t ns vs [d,m,j,f,n] l).qg=ts at *;have aU:=Q5 ak;have ar:Hid ((zK t ns vs [d,m,j,f,n] l).pred=zP t l.pred):=rfl;clear ak;generalize zP t l.pred=fn at *;obtain⟨ps,E,D,_,G⟩:=z.out.pln;obtain⟨T,x,Z⟩:=zp E;subst Z;have K:=Q5 G;clear G;have bw:pls.length<=900:=by omega
    have av:=Q5 D;clear D;go_wp2_with (first|(go_at_call 160;refine(aO.out _ (by exact(by go_grown))).mono ?_;rintro e V ⟨tv,rfl,B,aa⟩;obtain⟨aP,Y,rfl⟩:=B.qx;have p:μ wr V:=(zQ (by go_grown) aa (zg _));have aM:=(Q6.new wr #[.bool false,.string l.pred,.slice O l.args.length y] 90).below aa;obtain⟨bA,bt,br⟩:=aM.boxed;have I:=z.out.box.below p;obtain⟨aB,a9,a4⟩:=I.boxed;have aK:=p.size;have r:=zB E p)|(at_builtin;refine kV V _ [ι fn,.slice aP ts.length Y] _ rfl (.tmp 56) (.tmp 58) 205 rfl w.heap.size 204 i0 _ 2 32 underlying205 hi bo bE bp rfl (by decide) (.slice T pls.length x) pls.length (gR ps) rfl r (by exact(by go_grown)) _ _ rfl (by simp) rfl (by simp[Value.oneCell']) (by omega) (by omega) (by omega) ?_;intro v' w3 al J ac;obtain⟨bX,bf,rfl⟩:=zp al;have ad:=I.saveT J (QS.own r) (by decide);obtain⟨aQ,aW,aL⟩:=ad.boxed))
    have aY:kB _ _ _ _ _ _ _ _ _ _ _ _ _ _ _ _ _:=(z.out.next p (zg _)).pushP J ac (uc.push (l:=zK t ns vs [d,m,j,f,n] l) r av.out (fun k a b=>⟨(K.out k a b).1,(K.out k a b).2.1.below p,(K.out k a b).2.2⟩) (by omega) (by rw[aU.out];exact⟨yr B.own (by simp;omega),B.len,B.num⟩) (by rw[ar.out];omega) (by rw[ar.out];exact al) J) (by omega);go_roundw
    case rel=>exact⟨k+1,_,_,by omega,by go_num,by rw[aN.out,aJ.out];exact aY⟩
    case measure=>simp[intOf];omega
   |true=>
    rw[hn] at bB;simp only[hn,mm,if_true,gL,if_false,qQ] at Q P;have aN:Hid (((c.body.take (k+1)).filter fun l=>!l.neg).map (zK t ns vs [d,m,j,f,n])=((c.body.take k).filter fun l=>!l.neg).map (zK t ns vs [d,m,j,f,n]) ):=by rw[Hid,Q]
    have aJ:Hid (((c.body.take (k+1)).filter fun l=>l.neg).map (zK t ns vs [d,m,j,f,n])=((c.body.take k).filter fun l=>l.neg).map (zK t ns vs [d,m,j,f,n])++[zK t ns vs [d,m,j,f,n] l]):=by rw[Hid,P,uQ];rfl
    clear Q P;generalize ((c.body.take k).filter fun l=>!l.neg).map (zK t ns vs [d,m,j,f,n])=pls at *;generalize ((c.body.take k).filter fun l=>l.neg).map (zK t ns vs [d,m,j,f,n])=nls at *;have aO:Hid (∀W,μ wr W->Calls prog 160 #[(π mb),.agg #[.bool true,.string l.pred,.slice O l.args.length y],(π sb)] W fun e S=>∃tv,e=ε (.agg #[ι (zP t l.pred:Nat),tv])/\yh W.heap.size S tv (zK t ns vs [d,m,j,f,n] l).qg/\μ W S):=fun W H=>by
     have q:=aI.out W sb l (.slice O l.args.length y) w.heap.size ap (Q9 C H) (z.out.scope.below H) (bv.out.below (Q9 C H)) b5;rw[hn] at q;exact q
    generalize ak:(zK t ns vs [d,m,j,f,n] l).qg=ts at *;have aU:=Q5 ak;have ar:Hid ((zK t ns vs [d,m,j,f,n] l).pred=zP t l.pred):=rfl;clear ak;generalize zP t l.pred=fn at *;obtain⟨ps,E,D,_,G⟩:=z.out.nln;obtain⟨T,x,Z⟩:=zp E;subst Z;have K:=Q5 G;clear G;have bw:nls.length<=900:=by omega
    have av:=Q5 D;clear D;go_wp2_with (first|(go_at_call 160;refine(aO.out _ (by exact(by go_grown))).mono ?_;rintro e V ⟨tv,rfl,B,aa⟩;obtain⟨aP,Y,rfl⟩:=B.qx;have p:μ wr V:=(zQ (by go_grown) aa (zg _));have aM:=(Q6.new wr #[.bool true,.string l.pred,.slice O l.args.length y] 90).below aa;obtain⟨bA,bt,br⟩:=aM.boxed;have I:=z.out.box.below p;obtain⟨aB,a9,a4⟩:=I.boxed;have aK:=p.size;have r:=zB E p)|(at_builtin;refine kV V _ [ι fn,.slice aP ts.length Y] _ rfl (.tmp 50) (.tmp 52) 205 rfl w.heap.size 204 i0 _ 2 32 underlying205 hi bo bE bp rfl (by decide) (.slice T nls.length x) nls.length (gR ps) rfl r (by exact(by go_grown)) _ _ rfl (by simp) rfl (by simp[Value.oneCell']) (by omega) (by omega) (by omega) ?_;intro v' w3 al J ac;obtain⟨bX,bf,rfl⟩:=zp al;have ad:=I.saveT J (QS.own r) (by decide);obtain⟨aQ,aW,aL⟩:=ad.boxed))
    have aY:kB _ _ _ _ _ _ _ _ _ _ _ _ _ _ _ _ _:=(z.out.next p (zg _)).pushN J ac (uc.push (l:=zK t ns vs [d,m,j,f,n] l) r av.out (fun k a b=>⟨(K.out k a b).1,(K.out k a b).2.1.below p,(K.out k a b).2.2⟩) (by omega) (by rw[aU.out];exact⟨yr B.own (by simp;omega),B.len,B.num⟩) (by rw[ar.out];omega) (by rw[ar.out];exact al) J) (by omega);go_roundw
    case rel=>exact⟨k+1,_,_,by omega,by go_num,by rw[aJ.out,aN.out];exact aY⟩
    case measure=>simp[intOf];omega
  ·have b6:k=c.body.length:=by omega
   have bZ:Hid (c.body.take k=c.body):=by rw[Hid,b6,vw]
   rw[bZ.out] at z;have I:=z.out.box;have bD:=z.out.res;obtain⟨aB,a9,a4⟩:=I.boxed;obtain⟨bz,cf,cc⟩:=bD.boxed;have aw:=bR.out;subst aw;obtain⟨T,x,Z⟩:=zp z.out.pln.choose_spec.1;obtain⟨bm,a3,bG⟩:=zp z.out.nln.choose_spec.1;subst Z;subst bG;clear b6;generalize (c.body.filter fun l=>!l.neg).map (zK t ns vs [d,m,j,f,n])=pls at *;generalize (c.body.filter fun l=>l.neg).map (zK t ns vs [d,m,j,f,n])=nls at *;go_wp2
   (try simp only[Exit.inBlock,Exit.then])
   refine zL (v:=.agg #[ι st,ι vs.length,ι (zP t c.head.pred:Nat),.slice A (zK t ns vs [d,m,j,f,n] c.head).qg.length s,.slice T pls.length x,.slice bm nls.length a3]) (by simp[results,results117,go_sem,bz]) rfl ⟨_,_,_,by rw[HE.out];rfl,?_,?_⟩
   ·have aR:ze [w.heap.size+1] wr ((((((wr.setCell ⟨w.heap.size+1,0,none⟩ (ι st)).setCell ⟨w.heap.size+1,1,none⟩ (ι vs.length)).setCell ⟨w.heap.size+1,2,none⟩ (ι (zP t c.head.pred:Nat))).setCell ⟨w.heap.size+1,3,none⟩ (.slice A (zK t ns vs [d,m,j,f,n] c.head).qg.length s)).setCell ⟨w.heap.size+1,4,none⟩ (.slice T pls.length x)).setCell ⟨w.heap.size+1,5,none⟩ (.slice bm nls.length a3)):=(((((ze.set _ _ _ _).trans (ze.set _ _ _ _)).trans (ze.set _ _ _ _)).trans (ze.set _ _ _ _)).trans (ze.set _ _ _ _)).trans (ze.set _ _ _ _);have aG:=QS.box bD;have bK:=DH t c.head.pred;have bY:=bd.out;rw[HE.out];exact⟨z.out.head.saveT aR aG (by decide),z.out.pln.saveTT aR aG (by decide) (by decide),z.out.nln.saveTT aR aG (by decide) (by decide),bN,by simp only;omega,by show zP t c.head.pred<=1000000;omega⟩
   ·exact(((((C.setCell (by simp) _).setCell (by simp) _).setCell (by simp) _).setCell (by simp) _).setCell (by simp) _).setCell (by simp) _
end
section
open Go.Proofs.Tryz Go.RowKit
variable {lo:Nat}{w w0:World}{v' mv1 mv2 av fv rv:Value}{rs:List zr}{ps:List (Value×Value×Value)}{sb sr mb wd:Nat}{xs:List Nat}
theorem Qj:(prog.info? 210).map (fun i=>(i.zero,i.size,i.bytes))=some (some (.agg #[ι 0,ι 0,ι 0,ι 0]),4,32):=by kernel_rfl
theorem Qu:(prog.info? 207).map (fun i=>(i.zero,i.size,i.bytes))=some (some (.agg #[ι 0,ι 0,ι 0,ν,ν,ν]),6,96):=by kernel_rfl
def rS(f:jx):List Value:=[ι f.pred,ι (f.row.getD 0 0:Nat),ι (f.row.getD 1 0:Nat),ι (f.row.getD 2 0:Nat)]
def kU(fs:List jx):List Value:=fs.flatMap rS
def pU(r:zr)(p:Value×Value×Value):List Value:=[ι r.qh,ι r.vars,ι r.head.pred,p.1,p.2.1,p.2.2]
def kX(rs:List zr)(ps:List (Value×Value×Value)):List Value:=(List.zipWith pU rs ps).flatten
theorem P4(fs:List jx)(f:jx):kU (fs++[f])=kU fs++rS f:=by simp[kU]
theorem Gu(rs:List zr)(ps:List (Value×Value×Value))(r:zr)(p:Value×Value×Value)(h:ps.length=rs.length):kX (rs++[r]) (ps++[p])=kX rs ps++pU r p:=by
 unfold kX;rw[eH h.symm];simp
def re(lo:Nat)(w:World)(v:Value)(fs:List jx):Prop:=w.ownsRow lo 210 4 v fs.length (kU fs)
structure qF (lo:Nat) (w:World) (v:Value) (rs:List zr) (ps:List (Value×Value×Value)):Prop where
 own:w.ownsRow lo 207 6 v rs.length (kX rs ps)
 len:ps.length=rs.length
 rule:∀k (_:k<rs.length) (_:k<ps.length),vm lo w ps[k].1 ps[k].2.1 ps[k].2.2 rs[k]
 few:rs.length<=1000
theorem qF.below{w w':World}{v:Value}{rs:List zr}{ps:List (Value×Value×Value)}(h:qF lo w v rs ps)(c:μ w w'):qF lo w' v rs ps:=⟨zB h.own c,h.len,fun k a b=>(h.rule k a b).below c,h.few⟩
theorem qF.saveT{f:Nat}{w w':World}{v:Value}{rs:List zr}{ps:List (Value×Value×Value)}{T:TypeId}{M:List Nat}(h:qF f w v rs ps)(hs:ze M w w')(e:QS w T M)(g:284≠T)(d:204≠T)(c:207≠T):qF f w' v rs ps:=⟨yG h.own hs e c,h.len,fun k a b=>(h.rule k a b).saveT hs e g d,h.few⟩
theorem qF.push{d:Nat}{w':World}{v:Value}{r:zr}{p:Value×Value×Value}(h:qF d w v rs ps)(i:rs.length+1<=1000)(l:vm d w p.1 p.2.1 p.2.2 r)(g:w'.ownsRow d 207 6 v' (rs.length+1) (kX rs ps++pU r p))(hs:ze v.ownBlock.toList w w'):qF d w' v' (rs++[r]) (ps++[p]):=by
 have e:=QS.own h.own;refine⟨by rw[Gu _ _ _ _ h.len,yp];exact g,by simp[h.len],fun k a b=>?_,by simpa using i⟩;by_cases f:k<rs.length
 ·have c:k<ps.length:=by have:=h.len;omega
  rw[vq f,vq c];exact(h.rule k f c).saveT hs e (by decide) (by decide)
 ·obtain rfl:k=rs.length:=by simp at a;omega
  have j:=h.len;simp only[←j,rM];exact l.saveT hs e (by decide) (by decide)
theorem qF.cell{w:World}{i:Option Addr}{n cap:Nat}{rs:List zr}{ps:List (Value×Value×Value)}(h:qF lo w (.slice i n cap) rs ps)(k:Nat)(u:k<rs.length)(d:k<ps.length):∃g,i=some ⟨g,0,none⟩/\g<w.heap.size/\w.cell? ⟨g,k*6,none⟩=some (ι (rs[k].qh:Nat))/\w.cell? ⟨g,k*6+1,none⟩=some (ι (rs[k].vars:Nat))/\w.cell? ⟨g,k*6+2,none⟩=some (ι (rs[k].head.pred:Nat))/\w.cell? ⟨g,k*6+3,none⟩=some ps[k].1/\w.cell? ⟨g,k*6+4,none⟩=some ps[k].2.1/\w.cell? ⟨g,k*6+5,none⟩=some ps[k].2.2:=by
 obtain⟨g,j,f,_,q,a⟩:=yv h.own (by omega);simp at f;have e:∀(rs:List zr) (ps:List (Value×Value×Value)) (k:Nat) (b:k<rs.length) (c:k<ps.length),(kX rs ps)[k*6]?=some (ι (rs[k].qh:Nat))/\(kX rs ps)[k*6+1]?=some (ι (rs[k].vars:Nat))/\(kX rs ps)[k*6+2]?=some (ι (rs[k].head.pred:Nat))/\(kX rs ps)[k*6+3]?=some ps[k].1/\(kX rs ps)[k*6+4]?=some ps[k].2.1/\(kX rs ps)[k*6+5]?=some ps[k].2.2:=by
  intro rs;induction rs with
  |nil=>intro ps k b;simp at b
  |cons r l z=>
   intro ps k b c;match ps,k,b,c with
   |p::ps,0,_,_=>simp[kX,pU]
   |p::ps,k+1,b,c=>
    have:=z ps k (by simpa using b) (by simpa using c);simp only[kX,lV,mu] at this ⊢;rw[show(k+1)*6=k*6+6 from by omega];have m:k*6+6=(pU r p).length+k*6:=by simp[pU];omega
    rw[m];simp only[Nat.add_assoc,gX (Nat.le_add_right _ _),ww];simpa using this
 obtain⟨t,y,v,o,x,s⟩:=e rs ps k u d;exact⟨g,f.1,q,a _ _ t,a _ _ y,a _ _ v,a _ _ o,a _ _ x,a _ _ s⟩
theorem CH:∀(fs:List jx) (k:Nat) (h:k<fs.length),(kU fs)[k*4]?=some (ι (fs[k].pred:Nat))/\(kU fs)[k*4+1]?=some (ι (fs[k].row.getD 0 0:Nat))/\(kU fs)[k*4+2]?=some (ι (fs[k].row.getD 1 0:Nat))/\(kU fs)[k*4+3]?=some (ι (fs[k].row.getD 2 0:Nat))
 |[],k,h=>by simp at h
 |f::l,0,_=>by simp[kU,rS]
 |f::l,k+1,h=>by
  have:=CH l k (by simpa using h);simp only[kU,uw] at this ⊢;rw[show(k+1)*4=k*4+4 from by omega];have a:k*4+4=(rS f).length+k*4:=by simp[rS];omega
  rw[a];simp only[Nat.add_assoc,gX (Nat.le_add_right _ _),ww];simpa using this
def uB(t:List zh)(ns:κ)(os:Option (List (Option (List Int))))(cs:List zd):List zr:=cs.zipIdx.filterMap fun x=>if x.1.body.length>0 then some (vo t ns x.1 (xV os x.2)) else none
def vB(t:List zh)(ns:κ)(cs:List zd):List jx:=(cs.filter fun c=>!decide (c.body.length>0)).map (vP t ns)
def vj(t:List zh)(ns:κ)(os:Option (List (Option (List Int))))(cs:List zd):jw:={qf:=ns.length,qj:=t.map (·.jh),facts:=vB t ns cs,rules:=uB t ns os cs}
theorem FI(t:List zh)(ns:κ)(os:Option (List (Option (List Int))))(cs:List zd)(k:Nat)(a:k<cs.length):uB t ns os (cs.take (k+1))=uB t ns os (cs.take k)++(if cs[k].body.length>0 then [vo t ns cs[k] (xV os k)] else []):=by
 unfold uB;rw[yM a,List.zipIdx_append,sK];congr 1;simp only[List.zipIdx_singleton,qt,vz,pZ,List.filterMap_nil];rw[dP (by omega)];by_cases h:cs[k].body.length>0
 ·rw[zc h,zc h]
 ·rw[za h,za h]
theorem Le(t:List zh)(ns:κ)(cs:List zd)(k:Nat)(a:k<cs.length):vB t ns (cs.take (k+1))=vB t ns (cs.take k)++(if cs[k].body.length>0 then [] else [vP t ns cs[k]]):=by
 unfold vB;rw[iq _ _ _ a,uQ];congr 1;by_cases h:cs[k].body.length>0
 ·simp[h]
 ·simp[h]
theorem Ls(t:List zh)(ns:κ)(os:Option (List (Option (List Int))))(cs:List zd):(uB t ns os cs).length<=cs.length:=by
 have:=sd (fun x:zd×Nat=>if x.1.body.length>0 then some (vo t ns x.1 (xV os x.2)) else none) cs.zipIdx;simpa [uB] using this
theorem Oi(t:List zh)(ns:κ)(cs:List zd):(vB t ns cs).length<=cs.length:=by
 unfold vB;rw[uu];exact p8 _ _
structure jO (B:Nat) (w0 w:World) (sb sr mb:Nat) (mv1 mv2 av fv rv:Value) (wd:Nat) (xs:List Nat) (fs:List jx) (rs:List zr) (ps:List (Value×Value×Value)):Prop where
 box:Q6 w sb #[ι wd,av,fv,rv] 146
 res:Q6 w sr #[ι 0,ν,ν,ν] 146
 mak:Q6 w mb #[mv1,mv2] 200
 ari:w.ownsRow B 3 1 av xs.length (xs.map Rj)
 fac:re B w fv fs
 rul:qF B w rv rs ps
 below:Below B w0 w
 low:B<=sb/\B<=sr/\sb≠sr
theorem jO.next{B:Nat}{w':World}{fs:List jx}(h:jO B w0 w sb sr mb mv1 mv2 av fv rv wd xs fs rs ps)(a:μ w w')(b:B<=w0.heap.size):jO B w0 w' sb sr mb mv1 mv2 av fv rv wd xs fs rs ps:=
 ⟨h.box.below a,h.res.below a,h.mak.below a,zB h.ari a,zB h.fac a,h.rul.below a,zQ h.below a b,h.low⟩
theorem jO.pushF{B:Nat}{e:World}{fs f:List jx}(h:jO B w0 w sb sr mb mv1 mv2 av fv rv wd xs fs rs ps)(hs:ze fv.ownBlock.toList w e)(i:re B e v' f)(k:B<=w.heap.size):jO B w0 (e.setCell ⟨sb,2,none⟩ v') sb sr mb mv1 mv2 av v' rv wd xs f rs ps:=by
 have c:=QS.own h.fac;have d:=h.box.saveT hs c (by decide);have a:=QS.box d;have b:ze [sb] e (e.setCell ⟨sb,2,none⟩ v'):=ze.set _ _ _ _;have g:=d.set 2 v';exact⟨by simpa using g,(h.res.saveT hs c (by decide)).set_ne (Ne.symm h.low.2.2) _ _,(h.mak.saveT hs c (by decide)).saveT b a (by decide),yG (yG h.ari hs c (by decide)) b a (by decide),yG i b a (by decide),(h.rul.saveT hs c (by decide) (by decide) (by decide)).saveT b a (by decide) (by decide) (by decide),(h.below.trans (hs.below (fun x j=>yW h.fac (yt j)) k)).setCell h.low.1 _,h.low⟩
theorem jO.pushR{B:Nat}{g:World}{fs:List jx}{c:List zr}{d:List (Value×Value×Value)}(h:jO B w0 w sb sr mb mv1 mv2 av fv rv wd xs fs rs ps)(hs:ze rv.ownBlock.toList w g)(j:qF B g v' c d)(k:B<=w.heap.size):jO B w0 (g.setCell ⟨sb,3,none⟩ v') sb sr mb mv1 mv2 av fv v' wd xs fs c d:=by
 have e:=QS.own h.rul.own;have f:=h.box.saveT hs e (by decide);have a:=QS.box f;have b:ze [sb] g (g.setCell ⟨sb,3,none⟩ v'):=ze.set _ _ _ _;have i:=f.set 3 v';exact⟨by simpa using i,(h.res.saveT hs e (by decide)).set_ne (Ne.symm h.low.2.2) _ _,(h.mak.saveT hs e (by decide)).saveT b a (by decide),yG (yG h.ari hs e (by decide)) b a (by decide),yG (yG h.fac hs e (by decide)) b a (by decide),j.saveT b a (by decide) (by decide) (by decide),(h.below.trans (hs.below (fun x l=>yW h.rul.own (yt l)) k)).setCell h.low.1 _,h.low⟩
structure gJ (lo:Nat) (w:World) (av fv rv:Value) (S:jw) (ps:List (Value×Value×Value)):Prop where
 ari:w.ownsRow lo 3 1 av S.qj.length (S.qj.map Rj)
 fac:re lo w fv S.facts
 rul:qF lo w rv S.rules ps
end
section
open Go.Proofs.Tryz Go.RowKit
variable {lo:Nat}
def Ke(w:World)(S:jw)(e:Ending)(w':World):Prop:=∃b c a d,e=ε (.agg #[ι S.qf,b,c,a])/\gJ w.heap.size w' b c a S d/\μ w w'
def Sc(t:List zh)(k:Nat):List Nat:=(t.take k).map (·.jh)++List.replicate (t.length-k) 0
theorem ot(t:List zh)(k:Nat)(a:k<=t.length):(Sc t k).length=t.length:=by simp[Sc];omega
theorem OO(t:List zh)(k:Nat)(a:k<t.length):(Sc t k).set k (uK t k)=Sc t (k+1):=by
 have e:uK t k=t[k].jh:=by simp[uK,a]
 obtain⟨m,b⟩:∃m,t.length-k=m+1:=⟨t.length-k-1,by omega⟩;unfold Sc;rw[e,fW _ _ (by simp;omega),uu,qt,dP (by omega),jX,b,rA,nG,yM a,uQ,show t.length-(k+1)=m from by omega,kH];rfl
theorem Pz(t:List zh):Sc t t.length=t.map (·.jh):=by simp[Sc]
theorem Om{ah:Nat}(w:World)(tb o C:Nat)(t:List zh)(ns:κ)(cs:List zd)(cv ov:Value)(os:Option (List (Option (List Int))))(hT:TG lo w tb o t)(hC:lR lo w C ns)(b5:t.length<=1000)(bx:ns.length<=1000)(ae:Rh ah 171 w cv cs)(a5:∀c∈cs,c.head.args.length+yU c.body<=1000/\c.body.length<=900)(bM:cs.length<=1000)(ho:jC w ov os)(bw:(os.getD []).length<=2000000)(a7:∀o∈os.getD [],(o.getD []).length<=1000)(aJ:∀n,xt t n<=1000000):
  Calls prog 73 #[cv,.pointer (some ⟨tb,o,none⟩),(π C),ov] w fun e X=>Ke w (vj t ns os cs) e X:=by
 obtain⟨iI,b7,bf,a9,aM⟩:=info_parts Qv;obtain⟨iF,bm,b1,ba,bb⟩:=info_parts Qj;obtain⟨iR,b4,bp,aP,bc⟩:=info_parts Qu;obtain⟨bL,bA,rfl⟩:=ae.qx;obtain⟨bI,b9,rfl⟩:=ho.qx;have aE:=Q5 fun W h=>Nl W C ns (hC.below h);have aZ:=Q5 fun W h=>KM lo W tb o t (hT.below h);have aD:=Q5 fun W i h=>Hm lo W tb o t i (hT.below h);have bu:=Q5 fun W k h=>FT W _ os k (ho.below h) bw;have bv:Hid (∀k,((xV os k).getD []).length<=1000):=fun k=>by
  unfold xV;by_cases hk:k<(os.getD []).length
  ·rw[gs,yq hk];exact a7 _ (zs hk)
  ·rw[gs,kF (by omega)];simp
 have av:Hid (∀W mb,μ w W->Q6 W mb #[.pointer (some ⟨tb,o,none⟩),(π C)] 200->mT lo W mb tb o C t ns):=fun W mb h hb=>⟨hb,hT.below h,hC.below h,b5,bx⟩;have bq:=Q5 ae;have bo:=Q5 a5;have bg:=Q5 aJ;have HE:Hid (vj t ns os cs={qf:=ns.length,qj:=t.map (·.jh),facts:=vB t ns cs,rules:=uB t ns os cs}):=rfl;have a2:=fun W:World=>run_make (P:=prog) (w:=W) 24 3 iI _ underlying24 b7 bf .i64 .i64 (t.length:Int) (t.length:Int) (by omega) (Int.le_refl _) (by rw[aM];omega) (by omega);rw[a9] at a2;clear hT hC ae ho a5 a7 aJ;go_enter func73,ntmps73;go_upto_region 3 with (first|(go_at_call 114;refine(aE.out _ (by exact(by go_grown))).mono ?_;rintro e w1 ⟨rfl,y⟩;obtain rfl:=y.symm)|(go_at_call 115;refine(aZ.out _ (by exact(by go_grown))).mono ?_;rintro e w1 ⟨rfl,y⟩;obtain rfl:=y.symm))
 have hM:jO w.heap.size w ((((w.alloc (.cells #[ι 0,ν,ν,ν] 146)).alloc (.cells #[.pointer (some ⟨tb,o,none⟩),(π C)] 200)).alloc (.cells (madeCells #[ι 0] t.length) 3)).alloc (.cells #[ι ns.length,.slice (some ⟨w.heap.size+1+1,0,none⟩) t.length t.length,ν,ν] 146)) (w.heap.size+1+1+1) w.heap.size (w.heap.size+1) (.pointer (some ⟨tb,o,none⟩)) ((π C)) (.slice (some ⟨w.heap.size+1+1,0,none⟩) t.length t.length) (ν) (ν) ns.length (Sc t 0) [] [] []:=by
  refine⟨(Q6.new _ _ _).at' (by simp),((((Q6.new w _ _).up _).up _).up _),((((Q6.new _ _ _).up _).up _).at' (by simp)),?_,yC _ _ _ _,⟨yC _ _ _ _,rfl,fun k a=>by simp at a,by simp⟩,(by go_grown),by omega,by omega,by omega⟩;have q:=DC ((w.alloc (.cells #[ι 0,ν,ν,ν] 146)).alloc (.cells #[.pointer (some ⟨tb,o,none⟩),(π C)] 200)) t.length 3 (by unfold maxLen;omega);simp only[World.size_alloc] at q;have q2:=zB (yr q (show w.heap.size<=w.heap.size+1+1 by omega)) ((zo _ _).alloc (zg _) (.cells #[ι ns.length,.slice (some ⟨w.heap.size+1+1,0,none⟩) t.length t.length,ν,ν] 146));rw[ot t 0 (by omega),show Sc t 0=List.replicate t.length 0 from by simp[Sc]];exact q2
 generalize (((w.alloc (.cells #[ι 0,ν,ν,ν] 146)).alloc (.cells #[.pointer (some ⟨tb,o,none⟩),(π C)] 200)).alloc (.cells (madeCells #[ι 0] t.length) 3)).alloc (.cells #[ι ns.length,.slice (some ⟨w.heap.size+1+1,0,none⟩) t.length t.length,ν,ν] 146)=w3 at *;clear a2 aE aZ;have aK:=hM.box;obtain⟨al,a3,aS⟩:=aK.boxed;go_wp2;clear al a3 aS aK;have d:Hid (jO _ _ _ _ _ _ _ _ _ _ _ _ _ _ _ _):=hM;clear hM;go_loopw [29] (fun b3 wr=>∃k:Nat,k<=t.length/\b3=ι k/\Hid (jO w.heap.size w wr (w.heap.size+1+1+1) w.heap.size (w.heap.size+1) (.pointer (some ⟨tb,o,none⟩)) ((π C)) (.slice (some ⟨w.heap.size+1+1,0,none⟩) t.length t.length) (ν) (ν) ns.length (Sc t k) [] [] [])) (fun i _=>t.length-(intOf i).toNat)
 case atStart=>exact⟨0,zv _,rfl,d⟩
 case round=>
  clear d;obtain⟨k,hk,rfl,d⟩:=hrel;have b:=d.out.below;have Y:=b.size;by_cases s:k<t.length
  ·have ad:=d.out.box;obtain⟨al,a3,aS⟩:=ad.boxed;have bF:wr.cell? ⟨w.heap.size+1+1+1,1,none⟩=some (.slice (some ⟨w.heap.size+1+1,0,none⟩) t.length t.length):=by rw[al];rfl
   have I:=d.out.ari;have an:=ot t k hk;have bD:(k:Int)<(t.length:Int):=by omega
   obtain⟨g',bB,aj,_,bT,R⟩:=yv I (by omega);simp only[Value.slice.injEq,zt,Addr.mk.injEq,and_true] at aj;have bt:=aj.1;clear aj;subst bt;obtain⟨ax,bP⟩:∃ax:Nat,wr.cell? ⟨w.heap.size+1+1,k,none⟩=some (ι (ax:Nat)):=⟨_,R k (ι ((Sc t k)[k]'(by omega):Nat)) (by simp[Rj,an,s])⟩;have bE:=qT I;have Q:=uZ I k (by simp;omega) (ι (uK t k:Nat));have aH:Hid (((Sc t k).map Rj).set k (ι (uK t k:Nat))=(Sc t (k+1)).map Rj):=by rw[Hid,←OO t k s,dU];rfl
   rw[aH.out,an] at Q;have aF:=Q5 fun W h=>aD.out W k (Q9 b h);clear R an;generalize uK t k=ar at *;go_wp2;go_region_held3 (fun X=>X.cell? ⟨w.heap.size+1+1+1,1,none⟩=some (.slice (some ⟨w.heap.size+1+1,0,none⟩) t.length t.length)) (first|go_keep|(go_simp;done)) (go_at_call 80;refine(aF.out _ (by exact(by go_grown))).mono ?_;rintro e w4 ⟨rfl,y⟩;obtain rfl:=y.symm)
   go_wp2;have J:jO w.heap.size w (wr.setCell ⟨w.heap.size+1+1,k,none⟩ (ι ar)) (w.heap.size+1+1+1) w.heap.size (w.heap.size+1) (.pointer (some ⟨tb,o,none⟩)) ((π C)) (.slice (some ⟨w.heap.size+1+1,0,none⟩) t.length t.length) (ν) (ν) ns.length (Sc t (k+1)) [] [] []:=
    ⟨d.out.box.set_ne (by omega) _ _,d.out.res.set_ne (by omega) _ _,d.out.mak.set_ne (by omega) _ _,by rw[ot t (k+1) (by omega)];exact Q,yC _ _ _ _,⟨yC _ _ _ _,rfl,fun k a=>by simp at a,by simp⟩,b.setCell (by simp;omega) _,d.out.low⟩
   go_roundw
   case rel=>exact⟨k+1,by omega,by go_num,J.next ((zo _ _).drew) (zg _)⟩
   case measure=>simp[intOf];omega
  ·have b0:k=t.length:=by omega
   subst b0;rw[Pz] at d;clear hk s aD;go_wp2;go_loopw [42] (fun be wr=>∃(k:Nat) (fv rv:Value) (ps:List (Value×Value×Value)),k<=cs.length/\be=ι k/\Hid (jO w.heap.size w wr (w.heap.size+1+1+1) w.heap.size (w.heap.size+1) (.pointer (some ⟨tb,o,none⟩)) ((π C)) (.slice (some ⟨w.heap.size+1+1,0,none⟩) t.length t.length) fv rv ns.length (t.map (·.jh)) (vB t ns (cs.take k)) (uB t ns os (cs.take k)) ps)) (fun i _=>cs.length-(intOf i).toNat)
   case atStart=>exact⟨0,_,_,_,zv _,rfl,d⟩
   case round=>
    clear d b Y;obtain⟨k,fv,rv,ps,hk,rfl,d⟩:=hrel;have b:=d.out.below;have Y:=b.size;by_cases s:k<cs.length
    ·obtain⟨g,a8,U,aT,T,bi,hg,a1,aO,a4,aV,aw,bd⟩:=bq.out.cell k s;subst bi;have bS:=zl b hg a1;have bQ:=zl b hg aO;have bR:=zl b hg a4;have bH:=zl b hg aV;have bK:g<wr.heap.size:=by omega
     obtain⟨bz,bh⟩:=bo.out cs[k] (zs s);have D:=Le t ns cs k s;have E:=FI t ns os cs k s;have aQ:Hid (QD ah w _ _):=aw;have aG:Hid (Re ah w _ _):=bd;have bn:=Oi t ns (cs.take k);have aR:=Ls t ns os (cs.take k);rw[qt,dP (by omega)] at bn aR;clear a1 aO a4 aV aw bd;generalize cs[k]=c at *;by_cases a0:c.body.length>0
     ·have aU:(c.body.length:Int)>0:=by omega
      simp only[a0,if_true,qQ] at D E;have am:=Q5 D;have ag:=Q5 E;clear D E;generalize vB t ns (cs.take k)=B at *;generalize uB t ns os (cs.take k)=rs at *;have ay:=Q5 fun W u h hu=>Kw W (w.heap.size+1) tb o C t ns c _ _ u (xV os k) (av.out W _ (Q9 b h) (d.out.mak.below h)) (aQ.out.below (Q9 b h)) (aG.out.below (Q9 b h)) bz bh hu (bv.out k) (bg.out _);have aC:=Q5 fun W h=>bu.out W k (Q9 b h);generalize vo t ns c (xV os k)=r at *;have m:=d.out.rul.own;obtain⟨M,A,af⟩:=zp m;subst af;have aN:Hid (∀W u,μ wr W->uF W u (xV os k)->Calls prog 117 #[.pointer (some ⟨w.heap.size+1,0,none⟩),.agg #[.bool c.head.neg,.string c.head.pred,.slice a8 c.head.args.length U,.slice aT c.body.length T],u] W fun e X=>∃tv pv nv,e=ε (.agg #[ι r.qh,ι r.vars,ι r.head.pred,tv,pv,nv])/\vm W.heap.size X tv pv nv r/\μ W X):=ay;clear ay;go_wp2_with (first|(go_at_call 116;refine(aC.out _ (by exact(by go_grown))).mono ?_;rintro e w1 ⟨u,rfl,hu,y⟩;obtain rfl:=y.symm;obtain⟨bG,b8,rfl⟩:=hu.qx)|(go_at_call 117;refine(aN.out _ _ (by exact(by go_grown)) hu).mono ?_;rintro e w2 ⟨tv,pv,nv,rfl,K,aa⟩;obtain⟨aI,N,rfl⟩:=K.head.qx;obtain⟨az,S,rfl⟩:=K.qc.qx;obtain⟨aB,V,rfl⟩:=K.qp.qx;have l:μ wr w2:=(zQ (by go_grown) aa (zg _));have x:=d.out.box.below l;obtain⟨au,aq,ak⟩:=x.boxed;have br:=l.size;have j:=zB m l)|(at_builtin;refine kV w2 _ [ι r.qh,ι r.vars,ι r.head.pred,.slice aI r.head.qg.length N,.slice az r.qc.length S,.slice aB r.qp.length V] _ rfl (.tmp 58) (.tmp 60) 144 rfl w.heap.size 207 iR _ 6 96 underlying144 b4 bp aP bc rfl (by decide) (.slice M rs.length A) rs.length (kX rs ps) rfl j (by exact(by go_grown)) _ _ rfl (by simp) rfl (by simp[Value.oneCell']) (by omega) (by omega) (by omega) ?_;intro v' w3 H F a6;obtain⟨aX,O,rfl⟩:=zp H;have G:=x.saveT F (QS.own j) (by decide);obtain⟨ab,ao,ai⟩:=G.boxed))
      have aW:vm w.heap.size w2 _ _ _ r:=K.low (show w.heap.size<=_ by simp;omega);have J:jO _ _ _ _ _ _ _ _ _ _ _ _ _ _ _ _:=(d.out.next l (zg _)).pushR F (qF.push (r:=r) (p:=(.slice aI r.head.qg.length N,.slice az r.qc.length S,.slice aB r.qp.length V)) (d.out.rul.below l) (by omega) aW H F) (by omega);go_roundw
      case rel=>exact⟨k+1,_,_,_,by omega,by go_num,by rw[am.out,ag.out];exact J⟩
      case measure=>simp[intOf];omega
     ·have aU:¬(c.body.length:Int)>0:=by omega
      simp only[a0,if_false,qQ] at D E;have am:=Q5 D;have ag:=Q5 E;clear D E;generalize vB t ns (cs.take k)=B at *;generalize uB t ns os (cs.take k)=rs at *;have aY:=Q5 fun W h=>Pw W (w.heap.size+1) tb o C t ns c _ _ (av.out W _ (Q9 b h) (d.out.mak.below h)) (aQ.out.below (Q9 b h)) (aG.out.below (Q9 b h)) (by omega);generalize vP t ns c=f at *;have aA:Hid (∀W,μ wr W->Calls prog 118 #[.pointer (some ⟨w.heap.size+1,0,none⟩),.agg #[.bool c.head.neg,.string c.head.pred,.slice a8 c.head.args.length U,.slice aT c.body.length T]] W fun e X=>e=ε (.agg #[ι f.pred,ι (f.row.getD 0 0:Nat),ι (f.row.getD 1 0:Nat),ι (f.row.getD 2 0:Nat)])/\μ W X):=aY;have bs:Hid (kU (B++[f])=kU B++[ι f.pred,ι (f.row.getD 0 0:Nat),ι (f.row.getD 1 0:Nat),ι (f.row.getD 2 0:Nat)]):=P4 B f;clear aY;generalize f.row.getD 0 0=f0 at *;generalize f.row.getD 1 0=f1 at *;generalize f.row.getD 2 0=f2 at *;have m:wr.ownsRow w.heap.size 210 4 fv B.length (kU B):=d.out.fac;obtain⟨L,z,ac⟩:=zp m;subst ac;go_wp2_with (first|(go_at_call 118;refine(aA.out _ (by exact(by go_grown))).mono ?_;rintro e w2 ⟨rfl,aa⟩;have l:μ wr w2:=(zQ (by go_grown) aa (zg _));have x:=d.out.box.below l;obtain⟨au,aq,ak⟩:=x.boxed;have br:=l.size;have j:=zB m l)|(at_builtin;refine kV w2 _ [ι f.pred,ι f0,ι f1,ι f2] _ rfl (.tmp 66) (.tmp 68) 143 rfl w.heap.size 210 iF _ 4 32 underlying143 bm b1 ba bb rfl (by decide) (.slice L B.length z) B.length (kU B) rfl j (by exact(by go_grown)) _ _ rfl (by simp) rfl (by simp[Value.oneCell']) (by omega) (by omega) (by omega) ?_;intro v' w3 H F a6;obtain⟨aX,O,rfl⟩:=zp H;have G:=x.saveT F (QS.own j) (by decide);obtain⟨ab,ao,ai⟩:=G.boxed))
      have b2:re w.heap.size w3 (.slice aX (B.length+1) O) (B++[f]):=by
       unfold re;rw[bs.out,yp];exact H
      have J:jO _ _ _ _ _ _ _ _ _ _ _ _ _ _ _ _:=(d.out.next l (zg _)).pushF F b2 (by omega);go_roundw
      case rel=>exact⟨k+1,_,_,_,by omega,by go_num,by rw[am.out,ag.out];exact J⟩
      case measure=>simp[intOf];omega
    ·have b6:Hid (cs.take k=cs):=by rw[Hid,xh (by omega)]
     rw[b6.out] at d;have ad:=d.out.box;have aL:=d.out.res;obtain⟨bN,bJ,bO⟩:=ad.boxed;obtain⟨bk,bC,aR⟩:=aL.boxed;obtain⟨L,z,ac⟩:=zp d.out.fac;obtain⟨M,A,af⟩:=zp d.out.rul.own;subst ac;subst af;generalize vB t ns cs=B at *;generalize uB t ns os cs=rs at *;go_wp2
     (try simp only[Exit.inBlock,Exit.then])
     refine zL (v:=.agg #[ι ns.length,.slice (some ⟨w.heap.size+1+1,0,none⟩) t.length t.length,.slice L B.length z,.slice M rs.length A]) (by simp[results,results73,go_sem,bk]) rfl ⟨_,_,_,ps,by rw[HE.out],?_,?_⟩
     ·have ap:ze [w.heap.size] wr ((((wr.setCell ⟨w.heap.size,0,none⟩ (ι ns.length)).setCell ⟨w.heap.size,1,none⟩ (.slice (some ⟨w.heap.size+1+1,0,none⟩) t.length t.length)).setCell ⟨w.heap.size,2,none⟩ (.slice L B.length z)).setCell ⟨w.heap.size,3,none⟩ (.slice M rs.length A)):=(((ze.set _ _ _ _).trans (ze.set _ _ _ _)).trans (ze.set _ _ _ _)).trans (ze.set _ _ _ _);have Z:=QS.box aL;rw[HE.out];exact⟨yG d.out.ari ap Z (by decide),yG d.out.fac ap Z (by decide),d.out.rul.saveT ap Z (by decide) (by decide) (by decide)⟩
     ·exact(((b.setCell (by simp) _).setCell (by simp) _).setCell (by simp) _).setCell (by simp) _
end
section
variable {cs:List zd}{t t0:List zh}{c:zd}{vs:κ}
structure QL (cs:List zd) (t0 t:List zh):Prop where
 few:RY cs<=500
 many:∀c∈cs,yE c=false
 coll:ui cs=some t0
 tab:RL t0 (cs.flatMap zk)
 safe:∀c∈cs,xo c=true
 jm:xH (t0.length+1) t0 cs=(t,true)
theorem DY{s:ByteArray}(h:xQ s=.ok (cs,t)):∃t0,QL cs t0 t:=by
 unfold xQ at h;split at h
 ·cases h
 ·rename_i m;split at h
  ·cases h
  ·rename_i l j;split at h
   ·cases h
   ·rename_i f k;split at h
    ·cases h
    ·rename_i i;split at h
     ·cases h
     ·rename_i t0 e;split at h
      ·rename_i a;split at h
       ·rename_i d;obtain⟨rfl,rfl⟩:=h;refine⟨t0,?_,fun c b=>?_,e,Bq e,fun c b=>ko.1 a c b,?_⟩
        ·have n:=sC k;have o:=sY j;omega
        ·cases g:yE c with
         |false=>rfl
         |true=>exact zC (gI.2 ⟨c,b,g⟩) i
        ·rw[←d]
       ·cases h
      ·cases h
def R4(t:List zh):List (ByteArray×Nat):=t.map fun e=>(e.name,e.jh)
theorem NU(t:List zh)(n:ByteArray)(s:Nat):R4 (x9 t n s).1=R4 t:=by
 unfold x9;split
 ·rfl
 ·rename_i e b;split
  ·rfl
  ·obtain⟨g,d,h⟩:=jR b;unfold R4;refine kP (by simp) fun i f j=>?_;simp only[uM,lC];split
   ·rename_i a;subst a;rw[d]
   ·rfl
theorem Fd:∀(cs:List zd) (x:List zh×Bool),R4 (cs.foldl vV x).1=R4 x.1
 |[],_=>rfl
 |c::cs,x=>by
  rw[ut,Fd cs];exact NU _ _ _
theorem pB:∀(m:Nat) (t:List zh) (cs:List zd),R4 (xH m t cs).1=R4 t
 |0,_,_=>rfl
 |m+1,t,cs=>by
  have a:R4 (vT t cs).1=R4 t:=Fd cs (t,false);unfold xH;split
  ·rw[pB m,a]
  ·exact a
theorem AX{a:List zh}(h:R4 t=R4 a):Q8 t=Q8 a:=by
 have:=congrArg (List.map Prod.fst) h;simpa [R4,Q8,Function.comp_def] using this
theorem QL.lit(h:QL cs t0 t)(p:c∈cs){l:zj}(r:l∈zk c):∃e,yo t l.pred=some e/\e.name=l.pred/\zP t l.pred<t.length/\(t.map (·.jh)).getD (zP t l.pred) 0=l.args.length/\zP t l.pred=zV t l.pred:=by
 have g:R4 t=R4 t0:=by have:=pB (t0.length+1) t0 cs;rw[h.jm] at this;exact this
 have a:=uJ.2 ⟨c,p,r⟩;have f:(yo t0 l.pred).isSome=true:=by
  cases j:yo t0 l.pred with
  |some e=>rfl
  |none=>
   obtain⟨e,s,u⟩:=zy.1 ((h.tab.names l.pred).2 ⟨l,a,rfl⟩);exact zC u (nz h.tab.rise j e s)
 have i:=(EP (AX g).symm _).1 f;obtain⟨e,j⟩:=my.1 i;obtain⟨k,n,o⟩:=jR j;have b:zP t l.pred=zV t l.pred:=by unfold zP;rw[zc i]
 refine⟨e,j,o,by rw[b];exact k,?_,b⟩;rw[b];have v:(t.map (·.jh)).getD (zV t l.pred) 0=e.jh:=by simp[List.getD,k,n]
 rw[v];have d:(e.name,e.jh)∈R4 t0:=by
  rw[←g];exact zy.2 ⟨e,by rw[←n];exact zs k,rfl⟩
 obtain⟨q,w,m⟩:=zy.1 d;simp only[ya] at m;rw[←m.2];exact(h.tab.jh q w l a (by rw[m.1,o])).symm
theorem QL.sol(h:QL cs t0 t):R5 cs (val t):=by
 have a:kt t0 cs:=by
  intro c d l i;have b:=uJ.2 ⟨c,d,i⟩;cases f:yo t0 l.pred with
  |some e=>rfl
  |none=>
   obtain⟨e,g,j⟩:=zy.1 ((h.tab.names l.pred).2 ⟨l,b,rfl⟩);exact zC j (nz h.tab.rise f e g)
 have:=we (t0.length+1) t0 cs a (by rw[h.jm]);rw[h.jm] at this;exact this
theorem th(t:List zh)(n:ByteArray):xt t n=val t n:=rfl
theorem KG{a b:ByteArray}{d f:zh}(h:yo t a=some d)(j:yo t b=some f)(e:zV t a=zV t b):a=b:=by
 obtain⟨m,i,k⟩:=jR h;obtain⟨n,l,g⟩:=jR j;have:d=f:=by rw[←i,←l];simp[e]
 rw[←k,←g,this]
theorem pT(p:Nat)(ts:List zZ)(x:zZ):(ju p ts x).var=x.var/\(ju p ts x).num=x.num:=by unfold ju;split<;>exact⟨rfl,rfl⟩
theorem oj(t:List zh)(ns vs:κ)(a:List Nat)(l:zj)(p:Nat):zH (zK t ns vs a l) p=zH ⟨0,uj ns vs a l⟩ p:=by
 unfold zH zK;simp only[List.any_map];congr 1;funext x;simp only[Function.comp,(pT 0 _ x).1,(pT 0 _ x).2]
theorem FR(t:List zh)(ns vs:κ)(a:List Nat)(l:zj)(p:Nat):yN (zK t ns vs a l) p=yN ⟨0,uj ns vs a l⟩ p:=by
 unfold yN;rw[oj,show zH (zK t ns vs a l)=zH ⟨0,uj ns vs a l⟩ from funext (oj t ns vs a l)]
theorem Ny(ns:κ)(x:ByteArray):(um ns x).getD 0<zM ns.length:=by
 unfold um zM;split
 ·rename_i h;simp only[ur];split<;>omega
 ·simp only[gE];split<;>omega
theorem oC(t:List zh)(ns vs:κ)(a:List Nat)(l:zj)(o:∀k,a.getD k 0<5)(p:l.args.length<=3):qK (zK t ns vs a l) l.args.length (zM ns.length):=by
 have b:∀x∈(zK t ns vs a l).qg,∃y∈l.args,x=ju 0 (uj ns vs a l) (uH ns vs a y)/\uH ns vs a y∈uj ns vs a l:=by
  intro x e;unfold zK at e;simp only[zy] at e;obtain⟨z,g,rfl⟩:=e;have i:=g;unfold uj at g;obtain⟨y,f,rfl⟩:=zy.1 g;exact⟨y,f,rfl,i⟩
 refine⟨by simp[zK,uj],p,fun x e d=>?_,fun x e d=>?_⟩
 ·obtain⟨y,f,rfl,m⟩:=b x e;obtain⟨n,j⟩:=pT 0 (uj ns vs a l) (uH ns vs a y);rw[n] at d;rw[j,FR];refine⟨?_,?_⟩
  ·unfold uH at d ⊢;split
   ·unfold uD;split
    ·exact Nat.lt_of_sub_eq_succ rfl
    ·split
     ·exact Nat.lt_of_sub_eq_succ rfl
     ·exact o _
   ·rename_i h;rw[za h] at d;cases d
  ·have q:zH ⟨0,uj ns vs a l⟩ (uH ns vs a y).num=true:=(fK _ _).2 ⟨_,m,d,rfl⟩;unfold ju;rw[zc d];simp only;unfold yN;rw[zc q];rfl
 ·obtain⟨y,f,rfl,m⟩:=b x e;obtain⟨n,j⟩:=pT 0 (uj ns vs a l) (uH ns vs a y);unfold uH at d ⊢;split
  ·rename_i h;rw[zc h] at d;cases d
  ·exact Ny ns y
theorem Bk{ns:κ}{f:List Nat}{l:zj}{p:Nat}:zH (zK t ns vs f l) p=true↔∃y∈l.args,zO y=true/\uD vs f y=p:=by
 rw[oj,fK];constructor
 ·rintro⟨x,h,d,g⟩;unfold uj at h;obtain⟨y,b,rfl⟩:=zy.1 h;unfold uH at d g;by_cases a:zO y=true
  ·rw[zc a] at g;exact⟨y,b,a,g⟩
  ·rw[za a] at d;cases d
 ·rintro⟨y,b,a,e⟩;refine⟨uH ns vs f y,zy.2 ⟨y,b,rfl⟩,?_,?_⟩
  ·unfold uH;rw[zc a]
  ·unfold uH;rw[zc a];exact e
theorem Py(h:vs.Nodup)(x:ByteArray):(j9 vs x).Nodup:=by
 unfold j9;split
 ·rename_i d;simp only[ux,Bool.not_eq_true'] at d;rw[qq];refine⟨h,by simp,fun a f b e=>?_⟩;simp at e;subst e;rintro rfl;rw[ka.2 f] at d;cases d.2
 ·exact h
theorem Fo:∀(args vs:κ),vs.Nodup->(xn vs args).Nodup
 |[],_,h=>h
 |x::r,vs,h=>Fo r (j9 vs x) (Py h x)
theorem Ap(c:zd):(zw c).Nodup:=by
 have:∀(a:List zj) (vs:κ),vs.Nodup->(a.foldl vS vs).Nodup:=by
  intro a;induction a with
  |nil=>intro vs h;exact h
  |cons l a b=>
   intro vs h;rw[ut];refine b _ ?_;unfold vS;split
   ·exact h
   ·exact Fo _ _ h
 exact this c.body [] List.nodup_nil
theorem lz{α:Type}[DecidableEq α]:∀{l1 l2:List α},l1.Nodup->(∀x∈l1,x∈l2)->l1.length<=l2.length
 |[],l2,_,_=>by simp
 |a::l1,l2,f,d=>by
  have e:=d a (by simp);have h:=lz (l1:=l1) (l2:=l2.erase a) (qL.1 f).2 (fun x g=>by
   have b:x≠a:=by rintro rfl;exact(qL.1 f).1 g
   exact(fV b).2 (d x (by simp[g])))
  rw[lK e] at h;have:=m7 e;simp;omega
theorem BR:∀{l:κ} (_:l.Nodup) {k:Nat} (f:k<l.length),yu l l[k]=some k
 |y::r,b,0,_=>by simp[yu]
 |y::r,b,k+1,f=>by
  have a:k<r.length:=by simpa using f
  have d:y≠r[k]:=by
   rintro e;exact(qL.1 b).1 (e ▸ zs a)
  simp only[nf,yu,za d,BR (qL.1 b).2 a,jy]
theorem sN:∀{ps:κ} {n:ByteArray},n∈ps->∃k,k<ps.length/\yu ps n=some k:=fun{ps n} h=>by
 have:(yu ps n).isSome=true:=by rw[oU];exact ka.2 h
 obtain⟨k,a⟩:=my.1 this;obtain⟨b,_⟩:=fO a;exact⟨k,b,a⟩
theorem mz(h:yE c=false):c.head.args.length<=3/\c.body.length<=6/\(∀l∈c.body,l.args.length<=3)/\(xM c).length<=5:=by
 simp only[yE,nX,decide_eq_false_iff_not,List.any_eq_false,decide_eq_true_eq] at h;obtain⟨⟨⟨d,e⟩,b⟩,f⟩:=h;exact⟨by omega,by omega,fun l a=>by have:=b l a;omega,by omega⟩
theorem lm(h:yE c=false):(zw c).length<=5:=by
 have f:=(mz h).2.2.2;have:=lz (Ap c) (l2:=xM c) (fun x e=>by
  obtain⟨a,l,b,_,d⟩:=gO.1 e;exact tS.2 ⟨a,zb ⟨l,b,d⟩⟩)
 omega
structure kc (pl:List Nat) (k:Nat):Prop where
 five:∀i,pl.getD i 0<5
 low:∀i,i<k->pl.getD i 0<k
 onto:∀p,p<k->∃i,i<k/\pl.getD i 0=p
theorem AK(h:QL cs t0 t)(s:c∈cs)(ns:κ)(o:Option (List Int))(u:kc (yD (o.getD [])) (zw c).length):nP (vo t ns c o) (t.map (·.jh)) (zM ns.length):=by
 have E:=h.many c s;obtain⟨J,T,C,S⟩:=mz E;have N:=lm E;have z:=h.safe c s;simp only[xo,ux,ko,dX,Bool.not_eq_true'] at z;have a:∀{l:zj} {p:Nat},(∀y∈l.args,zO y=true->y∈zw c)->zH (zK t ns (zw c) (yD (o.getD [])) l) p=true->p<(zw c).length:=by
  intro l p v m;obtain⟨y,I,R,n⟩:=Bk.1 m;obtain⟨k,H,P⟩:=sN (v y I R);unfold uD at n;rw[P] at n;simp only at n;rw[za (by omega)] at n;rw[←n];exact u.low k H
 have f:=nV.1 z.1;have d:∀l∈c.body,∀y∈l.args,zO y=true->y∈zw c:=by
  intro l b y D v;cases G:l.neg with
  |false=>exact gO.2 ⟨v,l,b,G,D⟩
  |true=>
   rcases z.2 l b with q|q
   ·rw[G] at q;cases q
   ·exact nV.1 q y D v
 have j:∀l∈c.body,(zK t ns (zw c) (yD (o.getD [])) l).pred<(t.map (·.jh)).length/\qK (zK t ns (zw c) (yD (o.getD [])) l) ((t.map (·.jh)).getD (zK t ns (zw c) (yD (o.getD [])) l).pred 0) (zM ns.length):=by
  intro l b;obtain⟨e,_,_,w,A,_⟩:=h.lit s (l:=l) (by simp[zk,b]);refine⟨by simpa [zK] using w,?_⟩;show qK _ ((t.map (·.jh)).getD (zP t l.pred) 0) _;rw[A];exact oC t ns _ _ l u.five (C l b)
 obtain⟨e,_,_,w,A,_⟩:=h.lit s (l:=c.head) (by simp[zk]);refine⟨⟨N,fun l b=>?_,fun l b p m=>?_,fun l b p m=>?_,fun p m=>a f m,fun p B=>?_⟩,by simpa [vo,zK] using w,?_,fun l b=>?_,fun l b=>?_⟩
 ·obtain⟨x,g,rfl⟩:=zy.1 b;have:=C x (uS.1 g).1;simp[zK,uj];omega
 ·obtain⟨x,g,rfl⟩:=zy.1 b;exact a (d x (uS.1 g).1) m
 ·obtain⟨x,g,rfl⟩:=zy.1 b;exact a (d x (uS.1 g).1) m
 ·obtain⟨i,F,O⟩:=u.onto p B;have r:=zs F;obtain⟨Q,l,M,L,K⟩:=gO.1 r;refine⟨_,zy.2 ⟨l,uS.2 ⟨M,by simp[L]⟩,rfl⟩,Bk.2 ⟨_,K,Q,?_⟩⟩;unfold uD;rw[BR (Ap c) F];simp only;rw[za (by omega)];exact O
 ·show qK _ ((t.map (·.jh)).getD (zP t c.head.pred) 0) _;rw[A];exact oC t ns _ _ c.head u.five J
 ·obtain⟨x,g,rfl⟩:=zy.1 b;exact j x (uS.1 g).1
 ·obtain⟨x,g,rfl⟩:=zy.1 b;exact j x (uS.1 g).1
theorem oD(h:QL cs t0 t)(ns:κ)(os:Option (List (Option (List Int))))(P:∀i (d:i<cs.length),kc (yD ((xV os i).getD [])) (zw cs[i]).length):nL (vj t ns os cs):=by
 have z:∀a∈t.map (·.jh),a<=3:=by
  intro a ha;obtain⟨e,R,rfl⟩:=zy.1 ha;have I:R4 t=R4 t0:=by have:=pB (t0.length+1) t0 cs;rw[h.jm] at this;exact this
  have n:(e.name,e.jh)∈R4 t0:=by rw[←I];exact zy.2 ⟨e,R,rfl⟩
  obtain⟨F,K,L⟩:=zy.1 n;simp only[ya] at L;obtain⟨l,J,Q⟩:=(h.tab.names F.name).1 (zy.2 ⟨F,K,rfl⟩);have:=h.tab.jh F K l J Q;obtain⟨c,B,s⟩:=uJ.1 J;obtain⟨U,_,G,_⟩:=mz (h.many c B);rw[←L.2,←this];rcases zx.1 s with rfl|s
  ·exact U
  ·exact G l s
 have C:0<zM ns.length:=by unfold zM;split<;>omega
 have b:∀r∈uB t ns os cs,∃i,∃d:i<cs.length,0<cs[i].body.length/\r=vo t ns cs[i] (xV os i):=by
  intro r o;unfold uB at o;obtain⟨⟨c,i⟩,W,v⟩:=mQ.1 o;have O:=rB.1 W;simp only at v O;obtain⟨d,rfl⟩:=jM.1 O;split at v
  ·rename_i hb;simp only[zt] at v;exact⟨i,d,hb,v.symm⟩
  ·cases v
 refine⟨z,fun f V=>?_,fun r o=>?_,fun r o r' E H l s=>?_⟩
 ·have y:f∈vB t ns cs:=V;unfold vB at y;obtain⟨c,B,rfl⟩:=zy.1 y;have A:=(uS.1 B).1;obtain⟨e,_,_,G,q4,_⟩:=h.lit A (l:=c.head) (by simp[zk]);have w:qK (zK t ns [] [0,0,0,0,0] c.head) c.head.args.length (zM ns.length):=oC t ns [] _ c.head (fun k=>by
   by_cases T:k<5
   ·have:k=0∨k=1∨k=2∨k=3∨k=4:=by omega
    rcases this with rfl|rfl|rfl|rfl|rfl<;>decide
   ·simp[List.getD,List.getElem?_eq_none (show([0,0,0,0,0]:List Nat).length<=k by simp;omega)]) (mz (h.many c A)).1
  refine⟨by simpa [vP,vj] using G,?_,?_⟩
  ·show QN ((t.map (·.jh)).getD (zP t c.head.pred) 0) _;rw[q4];exact tJ w _
  ·refine Dm w C fun p _=>?_;by_cases T:p<5
   ·have:p=0∨p=1∨p=2∨p=3∨p=4:=by omega
    rcases this with rfl|rfl|rfl|rfl|rfl<;>exact C
   ·rw[show([0,0,0,0,0]:List Nat).getD p 0=0 by simp[List.getD,List.getElem?_eq_none (show([0,0,0,0,0]:List Nat).length<=p by simp;omega)]];exact C
 ·obtain⟨i,d,_,rfl⟩:=b r o;exact AK h (zs d) ns _ (P i d)
 ·obtain⟨i,d,_,rfl⟩:=b r o;obtain⟨j,Z,_,rfl⟩:=b r' E;obtain⟨x,N,rfl⟩:=zy.1 s;have q:=(uS.1 N).1;have D:x.neg=true:=by simpa using(uS.1 N).2
  have g:=h.sol cs[i] (zs d) x q;unfold up at g;rw[zc D] at g;obtain⟨e1,S,_,_,_,a5⟩:=h.lit (zs d) (l:=x) (by simp[zk,q]);obtain⟨e2,Y,_,_,_,X⟩:=h.lit (zs Z) (l:=cs[j].head) (by simp[zk]);intro e;have M:zP t x.pred=zP t cs[j].head.pred:=e;rw[a5,X] at M;have m:=KG S Y M;have u:xt t cs[i].head.pred=xt t cs[j].head.pred:=H;rw[th,th,←m] at u;omega
theorem pS{k:Nat}(f:k<=5):kc (yD []) k:=by
 have e:yD []=[0,1,2,3,4]:=rfl;have b:∀i,i<5->([0,1,2,3,4]:List Nat).getD i 0=i:=by
  intro i a;have:i=0∨i=1∨i=2∨i=3∨i=4:=by omega
  rcases this with rfl|rfl|rfl|rfl|rfl<;>rfl
 rw[e];refine⟨fun i=>?_,fun i a=>by rw[b i (by omega)];exact a,fun p d=>⟨p,d,b p (by omega)⟩⟩;by_cases a:i<5
 ·rw[b i a];exact a
 ·simp[List.getD,List.getElem?_eq_none (show([0,1,2,3,4]:List Nat).length<=i by simp;omega)]
end
section
open Classical
theorem QL.low{cs:List zd}{a t:List zh}(h:QL cs a t):t.length=a.length/\t.length<=500/\∀n,xt t n<=t.length:=by
 have g:R4 t=R4 a:=by have:=pB (a.length+1) a cs;rw[h.jm] at this;exact this
 have b:t.length=a.length:=by have:=congrArg List.length g;simpa [R4] using this
 have r:=sw _ [] a h.coll;have u:=iY cs;have s:=h.few;simp only[dD,vz] at r;have d:kt a cs:=by
  intro c k l m;have i:=uJ.2 ⟨c,k,m⟩;cases f:yo a l.pred with
  |some e=>rfl
  |none=>
   obtain⟨e,p,j⟩:=zy.1 ((h.tab.names l.pred).2 ⟨l,i,rfl⟩);exact zC j (nz h.tab.rise f e p)
 have q:∀n,val a n=0:=fun n=>by
  unfold val;split
  ·rename_i e f;have:=wn _ [] (fun e f=>by cases f) a h.coll e (nH f).1;omega
  ·rfl
 have o:=(wH d q).2 (by rw[h.jm]);rw[h.jm] at o;refine⟨b,by omega,fun n=>?_⟩;rw[th];by_cases j:n∈Q8 a
 ·have:=iV o (ps:=Q8 a) (fun c k l m=>(h.tab.names l.pred).2 ⟨l,uJ.2 ⟨c,k,m⟩,rfl⟩) j;simp[Q8] at this;show val t n<=_;omega
 ·have:val t n=0:=oa (by rw[AX g];exact j);omega
theorem Iq(cs:List zd):fI cs<=RY cs:=by
 induction cs with
 |nil=>simp[fI,RY]
 |cons c cs d=>
  have e:=rj c.body;have f:gx c.body=yU c.body:=by
   have:∀b:List zj,gx b=yU b:=by
    intro b;induction b with
    |nil=>rfl
    |cons a b d=>simp[gx,yU,kp] at d ⊢;omega
   exact this _
  simp[fI,RY,Sq,kA,kp] at d ⊢;omega
end
section
variable {ns:κ}
theorem tt(h:yB ns){i j:Nat}(a:i<j)(b:j<ns.length):QY (ns.getD i ByteArray.empty) (ns.getD j ByteArray.empty)=true:=by
 have c:i<ns.length:=by omega
 rw[QB _ c,QB _ b];exact wM.1 h i j c b a
theorem FU(h:yB ns)(x:ByteArray):∀(n l a:Nat),l<=a->a<=ns.length->a-l<n->(∀i,i<l->QY (ns.getD i ByteArray.empty) x=true)->(∀i,a<=i->i<ns.length->QY (ns.getD i ByteArray.empty) x=false)->Rm ns x n l a<=ns.length/\(∀i,i<Rm ns x n l a->QY (ns.getD i ByteArray.empty) x=true)/\∀i,Rm ns x n l a<=i->i<ns.length->QY (ns.getD i ByteArray.empty) x=false:=by
 intro n;induction n with
 |zero=>intro l a _ _ q;omega
 |succ n o=>
  intro l a u s v p k;unfold Rm;by_cases d:l<a
  ·rw[zc d];have t:l+(a-l) / 2<a:=by omega
   have f:l<=l+(a-l) / 2:=by omega
   generalize l+(a-l) / 2=m at *;by_cases e:QY (ns.getD m ByteArray.empty) x=true
   ·rw[zc e];refine o (m+1) a (by omega) s (by omega) (fun i j=>?_) k;by_cases c:i=m
    ·rw[c];exact e
    ·exact lt_trans (tt h (show i<m by omega) (by omega)) e
   ·rw[za e];have b:QY (ns.getD m ByteArray.empty) x=false:=by simpa using e
    refine o l m f (by omega) (by omega) p (fun i j g=>?_);by_cases c:i=m
    ·rw[c];exact b
    ·cases r:QY (ns.getD i ByteArray.empty) x with
     |false=>rfl
     |true=>
      have:=lt_trans (tt h (show m<i by omega) g) r;rw[this] at b;cases b
  ·rw[za d];exact⟨by omega,p,fun i j g=>k i (by omega) g⟩
theorem D9(h:yB ns)(x:ByteArray):uN ns x<=ns.length/\(∀i,i<uN ns x->QY (ns.getD i ByteArray.empty) x=true)/\∀i,uN ns x<=i->i<ns.length->QY (ns.getD i ByteArray.empty) x=false:=
 FU h x _ 0 ns.length (zv _) (zg _) (by omega) (fun i a=>by omega) (fun i a b=>by omega)
theorem rf(h:yB ns){v:Nat}(a:v<ns.length):um ns (ns.getD v ByteArray.empty)=some v:=by
 obtain⟨e,b,d⟩:=D9 h (ns.getD v ByteArray.empty);have c:uN ns (ns.getD v ByteArray.empty)=v:=by
  rcases p5 (uN ns (ns.getD v ByteArray.empty)) v with q|q|q
  ·have:=d _ (zg _) (by omega);rw[tt h q a] at this;cases this
  ·exact q
  ·have:=b v q;rw[QK] at this;cases this
 unfold um;rw[c,zc ⟨a,rfl⟩]
theorem G7{x:ByteArray}{v:Nat}(h:um ns x=some v):v<ns.length/\ns.getD v ByteArray.empty=x:=by
 unfold um at h;split at h
 ·rename_i a;simp only[zt] at h;subst h;exact a
 ·cases h
theorem Ku(h:yB ns){x:ByteArray}(b:x∈ns):∃v,um ns x=some v/\v<ns.length:=by
 obtain⟨v,a,rfl⟩:=qa b;have:=rf h a;rw[QB _ a] at this;exact⟨v,this,a⟩
theorem PE(h:yB ns)(x:ByteArray):yB (lY ns x)/\∀y,y∈lY ns x↔y=x∨y∈ns:=by
 unfold lY;obtain⟨A,v,t⟩:=D9 h x;by_cases f:uN ns x<ns.length/\ns.getD (uN ns x) ByteArray.empty=x
 ·rw[zc f];refine⟨h,fun y=>⟨zb,fun q=>q.elim (fun e=>?_) id⟩⟩;rw[e,←f.2,QB _ f.1];exact zs f.1
 ·rw[za f];generalize uN ns x=p at *;refine⟨?_,fun y=>?_⟩
  ·unfold yB;have m:=qZ p ns;have c:=h;unfold yB at c;rw[←m,ph] at c;rw[ph,pF];have s:∀a∈ns.take p,QY a x=true:=fun a j=>by
    obtain⟨i,k,rfl⟩:=qa j;have l:i<p:=by simp at k;omega
    have d:i<ns.length:=by omega
    have:=v i l;rw[QB _ d] at this;simpa using this
   have n:∀b∈ns.drop p,QY x b=true:=fun b g=>by
    obtain⟨i,k,rfl⟩:=qa g;have d:p+i<ns.length:=by simp at k;omega
    have u:=t (p+i) (by omega) d;rw[QB _ d] at u;rw[List.getElem_drop];cases w:QY x ns[p+i] with
    |true=>rfl
    |false=>
     exfalso;have e:=tO u w;by_cases o:i=0
     ·subst o;exact f ⟨by omega,by rw[QB _ (by omega)];simpa using e⟩
     ·have r:=tt h (show p<p+i by omega) d;rw[QB _ d,e] at r;have z:=t p (zg _) (by omega);rw[z] at r;cases r
   refine⟨c.1,⟨n,c.2.1⟩,fun a j b g=>?_⟩;rcases zx.1 g with rfl|g
   ·exact s a j
   ·exact c.2.2 a j b g
  ·have:y∈ns↔y∈ns.take p∨y∈ns.drop p:=by
    rw[←zI,qZ]
   rw[this];simp only[zI,zx];constructor
   ·rintro(q|q|q)
    ·exact zb (zf q)
    ·exact zf q
    ·exact zb (zb q)
   ·rintro(q|q|q)
    ·exact zb (zf q)
    ·exact zf q
    ·exact zb (zb q)
theorem J2(h:yB ns)(x:ByteArray):yB (qH ns x)/\∀y,y∈qH ns x↔(y=x/\zO x=false)∨y∈ns:=by
 unfold qH;cases a:zO x with
 |true=>simp[h]
 |false=>simpa using PE h x
theorem e8:∀(xs:κ) {ns:κ},yB ns->yB (xs.foldl qH ns)/\∀y,y∈xs.foldl qH ns↔(y∈xs/\zO y=false)∨y∈ns
 |[],ns,h=>⟨h,fun y=>by simp⟩
 |x::xs,ns,h=>by
  obtain⟨d,e⟩:=J2 h x;obtain⟨c,f⟩:=e8 xs d;refine⟨c,fun y=>?_⟩;rw[ut,f,e];simp only[zx];constructor
  ·rintro(⟨b,a⟩|⟨rfl,a⟩|q)
   ·exact zf ⟨zb b,a⟩
   ·exact zf ⟨zf rfl,a⟩
   ·exact zb q
  ·rintro(⟨rfl|b,a⟩|q)
   ·exact zb (zf ⟨rfl,a⟩)
   ·exact zf ⟨b,a⟩
   ·exact zb (zb q)
theorem C0:∀(a:List zj) {ns:κ},yB ns->yB (a.foldl uA ns)/\∀y,y∈a.foldl uA ns↔(∃l∈a,y∈l.args/\zO y=false)∨y∈ns
 |[],ns,h=>⟨h,fun y=>by simp⟩
 |l::a,ns,h=>by
  obtain⟨d,e⟩:=e8 l.args h;obtain⟨c,f⟩:=C0 a (ns:=uA ns l) d;refine⟨c,fun y=>?_⟩;have b:∀y,y∈uA ns l↔(y∈l.args/\zO y=false)∨y∈ns:=e;rw[ut,f,b];simp only[zx,exists_eq_or_imp];constructor
  ·rintro(q|q|q)
   ·exact zf (zb q)
   ·exact zf (zf q)
   ·exact zb q
  ·rintro((q|q)|q)
   ·exact zb (zf q)
   ·exact zf q
   ·exact zb (zb q)
theorem Cv:∀(cs:List zd) {ns:κ},yB ns->yB (cs.foldl qI ns)/\∀y,y∈cs.foldl qI ns↔(∃c∈cs,∃l∈zk c,y∈l.args/\zO y=false)∨y∈ns
 |[],ns,h=>⟨h,fun y=>by simp⟩
 |c::cs,ns,h=>by
  obtain⟨f,g⟩:=e8 c.head.args h;obtain⟨i,d⟩:=C0 c.body (ns:=uA ns c.head) f;obtain⟨e,j⟩:=Cv cs (ns:=qI ns c) i;refine⟨e,fun y=>?_⟩;have b:∀y,y∈uA ns c.head↔(y∈c.head.args/\zO y=false)∨y∈ns:=g;have a:∀y,y∈qI ns c↔(∃l∈c.body,y∈l.args/\zO y=false)∨y∈uA ns c.head:=d;rw[ut,j,a,b];simp only[zx,exists_eq_or_imp,zk];constructor
  ·rintro(q|q|q|q)
   ·exact zf (zb q)
   ·exact zf (zf (zb q))
   ·exact zf (zf (zf q))
   ·exact zb q
  ·rintro(((q|q)|q)|q)
   ·exact zb (zb (zf q))
   ·exact zb (zf q)
   ·exact zf q
   ·exact zb (zb (zb q))
theorem lf(cs:List zd):yB (zq cs)/\∀y,y∈zq cs↔∃c∈cs,∃l∈zk c,y∈l.args/\zO y=false:=by
 obtain⟨a,b⟩:=Cv cs (ns:=[]) List.Pairwise.nil;exact⟨a,fun y=>by rw[show zq cs=cs.foldl qI [] from rfl,b];simp⟩
end
end Go.Proofs.YteampbddflhngaaGreat
