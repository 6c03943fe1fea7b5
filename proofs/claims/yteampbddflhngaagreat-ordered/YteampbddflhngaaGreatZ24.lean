import Derived.Test.YteampbddflhngaaGreatZ05
import Derived.Test.YteampbddflhngaaGreatZ18
import Derived.Test.YteampbddflhngaaGreatZ20
import Derived.Test.YteampbddflhngaaGreatZ21
namespace Go.Proofs.YteampbddflhngaaGreat
set_option linter.all false
set_option maxRecDepth 100000
set_option maxHeartbeats 4000000
section
open Go.Proofs.Tryz Go.RowKit
variable {lo:Nat}
def vD(a:List Nat)(x:Int×Nat):List Nat:=if 0<=x.1/\x.1<5 then a.set x.1.toNat x.2 else a
def yB(os:List Int):List Nat:=os.zipIdx.foldl vD [0,1,2,3,4]
theorem Hd(a:List Nat)(x:Int×Nat):(vD a x).length=a.length:=by unfold vD;split<;>simp
theorem sI(os:List Int):(yB os).length=5:=by
 have:∀(l:List (Int×Nat)) (a:List Nat),(l.foldl vD a).length=a.length:=by
  intro l;induction l with
  |nil=>intro a;rfl
  |cons x l b=>intro a;rw[ut,b,Hd]
 exact this _ _
theorem Dt{os:List Int}{k:Nat}(a:k<os.length):(os.take (k+1)).zipIdx.foldl vD [0,1,2,3,4]=vD ((os.take k).zipIdx.foldl vD [0,1,2,3,4]) (os[k],k):=by
 rw[yL a,List.zipIdx_append,j8];simp only[List.zipIdx_singleton,qC,vB,ut,List.foldl_nil];rw[d8 (by omega)]
def kw(a:Value)(b:List Nat):List Value:=a::b.map Rm
theorem Bb(a:Value)(b:List Nat)(k x:Nat):(kw a b).toArray.setIfInBounds (1+k) (ι x)=(kw a (b.set k x)).toArray:=by
 rw[Nat.add_comm];simp[kw,List.map_set,Rm]
def lL(k:Nat):List Nat:=(List.range 5).map fun i=>if i<k then i else 0
theorem J6(k:Nat)(a:k<5):(lL k).set k k=lL (k+1):=by
 obtain rfl|rfl|rfl|rfl|rfl:k=0∨k=1∨k=2∨k=3∨k=4:=by omega
 all_goals rfl
theorem Ek{w:World}{a:Nat}{c:Value}{b:List Nat}(e:b.length=5)(h:Q8 w a (kw c b).toArray 257):a<w.heap.size/\(∀o,w.frozen? ⟨a,o,none⟩=false)/\∀k,k<5->∃x:Nat,w.cell? ⟨a,1+k,none⟩=some (ι (x:Nat)):=by
 obtain⟨d,f⟩:=h.rules;refine⟨h.lt,f,fun k g=>⟨b[k]'(by omega),?_⟩⟩;rw[d,Nat.add_comm];simp[kw,e,g,Rm]
def Ge(w:World)(vs:κ)(b:List Nat)(e:Ending)(w':World):Prop:=∃a,e=ε (.agg (kw a b).toArray)/\QF w.heap.size w' a vs/\μ w w'
theorem Ow(w:World)(c:zd)(va vb ov:Value)(o:Option (List Int))(hs:QF lo w va c.head.args)(R:Rg lo w vb c.body)(hl:c.head.args.length+yS c.body<=1000)(G:c.body.length<=1000)(X:uA w ov o)(al:(o.getD []).length<=1000):
  Calls prog 158 #[.agg #[.bool c.head.neg,.string c.head.pred,va,vb],ov] w fun e w'=>Ge w (zw c) (yB (o.getD [])) e w':=by
 obtain⟨ao,ab,rfl⟩:=hs.qx;obtain⟨Q,K,rfl⟩:=R.qx;obtain⟨ap,ag,rfl⟩:=X.qx;have HP:=Q7 fun W hW=>Ae W c _ _ (hs.below hW) (R.below hW) hl G;have HO:=Q7 X;clear hs R hl G X;go_enter func158,ntmps158;go_upto_region 2 with (first|(go_at_call 148;refine(HP.out _ (by exact(by go_grown))).mono ?_;rintro e u ⟨D,rfl,z,F⟩;obtain⟨l,d,rfl⟩:=zp z))
 have E:μ w u:=zQ (by go_grown) F (zg _);have aj:=E.size;have P:QF w.heap.size u (.slice l (zw c).length d) (zw c):=yt z (by simp;omega);have B:=(Q8.new (w.alloc (.cells #[.bool c.head.neg,.string c.head.pred,.slice ao c.head.args.length ab,.slice Q c.body.length K] 171)) #[ν,ι 0,ι 0,ι 0,ι 0,ι 0] 257).below F;rw[World.size_alloc] at B;have ah:=B.lt;have a:=Q8.new u (kw (.slice l (zw c).length d) (lL 0)).toArray 257;have t:μ u (u.alloc (.cells (kw (.slice l (zw c).length d) (lL 0)).toArray 257)):=(by go_grown);have j:=P.below t;have h:=B.below t;have b:=QB E t;rw[show(kw (.slice l (zw c).length d) (lL 0)).toArray=#[.slice l (zw c).length d,ι 0,ι 0,ι 0,ι 0,ι 0] from rfl] at j h b;rw[show(u.alloc (.cells (kw (.slice l (zw c).length d) (lL 0)).toArray 257))=(u.alloc (.cells #[.slice l (zw c).length d,ι 0,ι 0,ι 0,ι 0,ι 0] 257)) from rfl] at a;clear z F B P HP t;generalize H:zw c=vs at *;have aa:=Q7 H;clear H;generalize A:Value.slice l vs.length d=D at *;generalize u.alloc (.cells #[D,ι 0,ι 0,ι 0,ι 0,ι 0] 257)=w2 at *;generalize u.heap.size=sb at *;clear E u;have ac:=Q7 A;clear A;go_wp2;go_loopw [12] (fun Z wr=>∃k:Nat,k<=5/\Z=ι k/\Q8 wr sb (kw D (lL k)).toArray 257/\Q8 wr (w.heap.size+1) #[ν,ι 0,ι 0,ι 0,ι 0,ι 0] 257/\QF w.heap.size wr D vs/\μ w wr) (fun i _=>5-(intOf i).toNat)
 case atStart=>exact⟨0,by omega,rfl,a,h,j,b⟩
 case round=>
  clear a h j b;obtain⟨k,hk,rfl,a,h,j,b⟩:=hrel;have M:=b.size;by_cases s:k<5
  ·have af:(k:Int)<5:=by omega
   obtain⟨O,J,r⟩:=Ek (by simp[lL]) a;obtain⟨x,hx⟩:=r k s;have m:=a.set (1+k) (ι k);rw[Bb,J6 k s] at m;clear r;go_wp2;go_roundw
   ·exact⟨k+1,by omega,by go_num,m,h.set_ne (by omega) _ _,xO j ((QJ.refl _ _).setCell _ _) a (by decide),b.setCell (by simp;omega) _⟩
   ·simp[intOf];omega
  ·obtain rfl:k=5:=by omega
   clear hk s;have HF:Hid (lL 5=((o.getD []).take 0).zipIdx.foldl vD [0,1,2,3,4]):=rfl;rw[HF.out] at a;clear HF;go_wp2;go_loopw [22] (fun ad wr=>∃k:Nat,k<=(o.getD []).length/\ad=ι k/\Q8 wr sb (kw D (((o.getD []).take k).zipIdx.foldl vD [0,1,2,3,4])).toArray 257/\Q8 wr (w.heap.size+1) #[ν,ι 0,ι 0,ι 0,ι 0,ι 0] 257/\QF w.heap.size wr D vs/\μ w wr) (fun i _=>(o.getD []).length-(intOf i).toNat)
   case atStart=>exact⟨0,by omega,rfl,a,h,j,b⟩
   case round=>
    clear a h j b M;obtain⟨k,hk,rfl,a,h,j,b⟩:=hrel;have M:=b.size;have I:(((o.getD []).take k).zipIdx.foldl vD [0,1,2,3,4]).length=5:=sI _;by_cases s:k<(o.getD []).length
    ·obtain⟨g,f,rfl,hg,hc⟩:=HO.out.cell k s;have am:=zl b hg hc;have t:g<wr.heap.size:=by omega
     have C:=Q7 (Dt s);clear hc;generalize (o.getD [])[k]=x at *;generalize ((o.getD []).take k).zipIdx.foldl vD [0,1,2,3,4]=pl at *;by_cases p:0<=x/\x<5
     ·obtain⟨n,rfl⟩:=Int.eq_ofNat_of_zero_le p.1;have ak:=p.2;have hn:n<5:=by omega
      obtain⟨O,J,r⟩:=Ek I a;obtain⟨y,hy⟩:=r n hn;have m:=a.set (1+n) (ι k);rw[Bb] at m;have q:Hid (((o.getD []).take (k+1)).zipIdx.foldl vD [0,1,2,3,4]=pl.set n k):=by rw[Hid,C.out,vD,zc p];rfl
      clear r C p;go_wp2;go_roundw
      ·exact⟨k+1,by omega,by go_num,by rw[q.out];exact m,h.set_ne (by omega) _ _,xO j ((QJ.refl _ _).setCell _ _) a (by decide),b.setCell (by simp;omega) _⟩
      ·simp[intOf];omega
     ·have q:Hid (((o.getD []).take (k+1)).zipIdx.foldl vD [0,1,2,3,4]=pl):=by rw[Hid,C.out,vD,za p]
      clear C;rcases Int.lt_or_le x 0 with h0|h0
      ·clear p;go_wp2;exact⟨⟨_,_,_,⟨k+1,by omega,by go_num,by rw[q.out];exact a⟩,rfl,rfl,rfl⟩,by simp[intOf];omega⟩
      ·have h5:5<=x:=by omega
       clear p;go_wp2;go_roundw
       ·exact⟨k+1,by omega,by go_num,by rw[q.out];exact a,h,j,b⟩
       ·simp[intOf];omega
    ·have N:Hid (((o.getD []).take k).zipIdx.foldl vD [0,1,2,3,4]=yB (o.getD [])):=by rw[Hid,xg (by omega)];rfl
     rw[N.out] at a;have H5:=sI (o.getD []);generalize L:yB (o.getD [])=pl at *;obtain⟨p0,S,T,Y,U,rfl⟩:=five H5;have ae:=Q7 L;clear L;rw[show(kw D [p0,S,T,Y,U]).toArray=#[D,ι p0,ι S,ι T,ι Y,ι U] from rfl] at a;obtain⟨r,J,O⟩:=a.boxed;obtain⟨V,ai,an⟩:=h.boxed;have A:=ac.out;subst A;clear I H5 N;go_wp2
     (try simp only[Exit.inBlock,Exit.then])
     refine zK (v:=.agg (kw (.slice l vs.length d) [p0,S,T,Y,U]).toArray) (by simp[results,results158,go_sem,V,kw,Rm]) rfl ⟨_,by rw[ae.out],?_,?_⟩
     ·rw[aa.out];exact xO j (by repeat'(first|with_reducible(first|apply xR|assumption|apply xN|apply xA|apply xD|apply xS|apply xT)|go_size)) h (by decide)
     ·exact(((((b.setCell (by simp) _).setCell (by simp) _).setCell (by simp) _).setCell (by simp) _).setCell (by simp) _).setCell (by simp) _
def xW(os:Option (List (Option (List Int))))(k:Nat):Option (List Int):=(os.getD []).getD k none
theorem K9(w:World)(c:Value)(os:Option (List (Option (List Int))))(k:Nat)(h:jF w c os)(i:(os.getD []).length<=2000000):
  Calls prog 116 #[c,ι k] w fun e j=>∃u,e=.returned u/\uA w u (xW os k)/\j=w:=by
 obtain⟨p,d,rfl⟩:=h.qx;by_cases b:k<(os.getD []).length
 ·obtain⟨g,f,u,rfl,o,n,l⟩:=h.cell k b;have a:Hid (xW os k=(os.getD [])[k]):=by simp[Hid,xW,b]
  have m:=Q7 l;go_enter func116,ntmps116;go_wp2;go_ret;exact⟨_,rfl,by rw[a.out];exact m.out,rfl⟩
 ·have a:Hid (xW os k=none):=by simp[Hid,xW,List.getD_eq_getElem?_getD,List.getElem?_eq_none (Nat.not_lt.1 b)]
  go_enter func116,ntmps116;go_wp2;go_ret;exact⟨_,rfl,by rw[a.out];rfl,rfl⟩
def vL(t:List zh)(ns:κ)(c:zd):jj:=⟨zO t c.head.pred,zF (zL t ns [] [0,0,0,0,0] c.head) [0,0,0,0,0]⟩
def EH(f:jj):Value:=.agg #[ι f.pred,ι (f.row.getD 0 0:Nat),ι (f.row.getD 1 0:Nat),ι (f.row.getD 2 0:Nat)]
theorem Nf{A:Nat}(w:World)(L tb o X:Nat)(t:List zh)(ns:κ)(c:zd)(P U:Value)(h:mY lo w L tb o X t ns)(hs:QF A w P c.head.args)(O:Rg A w U c.body)(I:c.head.args.length<=1000):
  Calls prog 118 #[(π L),.agg #[.bool c.head.neg,.string c.head.pred,P,U]] w fun e n=>e=ε (EH (vL t ns c))/\μ w n:=by
 obtain⟨V,F,rfl⟩:=hs.qx;obtain⟨q,g,rfl⟩:=O.qx;have R:=Q7 fun W sb (S:μ w W) (b:gF 0 W sb [] [0,0,0,0,0])=>Di W L tb o X sb t ns [] [0,0,0,0,0] c.head _ (h.below S) b (by simp) (by simp) (hs.below S) I;have HR:Hid (∀W v (b0:Nat),yh b0 W v (zL t ns [] [0,0,0,0,0] c.head).qg->Calls prog 161 #[.agg #[ι (zO t c.head.pred:Nat),v],rE 0 0 0 0 0] W fun r n=>r=ε (.agg #[ι (((vL t ns c).row.getD 0 0:Nat):Int),ι (((vL t ns c).row.getD 1 0:Nat):Int),ι (((vL t ns c).row.getD 2 0:Nat):Int)])/\μ W n):=fun W v b0 E=>eD W v (zO t c.head.pred) _ 0 0 0 0 0 E;have HE:Hid (EH (vL t ns c)=.agg #[ι (zO t c.head.pred:Nat),ι ((vL t ns c).row.getD 0 0:Nat),ι ((vL t ns c).row.getD 1 0:Nat),ι ((vL t ns c).row.getD 2 0:Nat)]):=rfl;clear h hs O;have b:=Q8.new ((w.alloc (.cells #[.bool c.head.neg,.string c.head.pred,.slice V c.head.args.length F,.slice q c.body.length g] 171)).alloc (.cells #[ι 0,ι 0,ι 0,ι 0] 210)) #[ν,ι 0,ι 0,ι 0,ι 0,ι 0] 257;have j:=(Q8.new (w.alloc (.cells #[.bool c.head.neg,.string c.head.pred,.slice V c.head.args.length F,.slice q c.body.length g] 171)) #[ι 0,ι 0,ι 0,ι 0] 210).below ((zo _ _).alloc (zg _) (.cells #[ν,ι 0,ι 0,ι 0,ι 0,ι 0] 257));simp only[World.size_alloc] at b j;generalize (vL t ns c).row.getD 0 0=x at *;generalize (vL t ns c).row.getD 1 0=y at *;generalize (vL t ns c).row.getD 2 0=z at *;generalize (zL t ns [] [0,0,0,0,0] c.head).qg=C at *;generalize zO t c.head.pred=s at *;go_enter func118,ntmps118;go_upto_region 3 with (first|(go_at_call 160;refine(R.out _ _ (by exact(by go_grown)) (by exact⟨_,0,0,0,0,0,rfl,b,QF.nil _⟩)).mono ?_;rintro e i ⟨tv,rfl,E,k⟩;obtain⟨f,a,rfl⟩:=E.qx))
 have D:μ w i:=zQ (by go_grown) k (zg _);have l:=j.below k;clear b j R;have ad:=l.lt;have d:μ i (i.alloc (.cells #[ι s,.slice f C.length a] 204)):=(by go_grown);have p:=Q8.new i #[ι s,.slice f C.length a] 204;have J:=l.below d;have K:Hid (yh _ _ _ C):=E.below d;have B:=QB D d;clear E l k d;generalize i.alloc (.cells #[ι s,.slice f C.length a] 204)=T at *;generalize i.heap.size=lb at *;clear D i;obtain⟨Q,ac,Y⟩:=p.boxed;have ae:=B.size;go_region_held3 (fun n=>n.cell? ⟨lb,0,none⟩=some (ι s)/\n.cell? ⟨lb,1,none⟩=some (.slice f C.length a)) (first|go_keep|(go_simp;done)) (first|(go_at_call 161;refine(HR.out _ _ _ (by exact K.out.below (by go_grown))).mono ?_;rintro e w3 ⟨rfl,H⟩;have m:μ T w3:=(zQ (by go_grown) H (zg _));have M:=p.below m;have G:=J.below m;obtain⟨Z,N⟩:=M.rules;obtain⟨u,ab,aa⟩:=G.boxed))
 all_goals
  go_wp2
  (try simp only[Exit.inBlock,Exit.then])
  exact zK (v:=.agg #[ι s,ι x,ι y,ι z]) (by simp[results,results118,go_sem,u]) rfl ⟨by rw[HE.out],((((QB B m).setCell (by simp) _).setCell (by simp) _).setCell (by simp) _).setCell (by simp) _⟩
end
section
open Go.Proofs.Tryz Go.RowKit
variable {lo:Nat}{w0 w:World}{rb rr sb st va hp:Nat}{htv plv nlv v':Value}{ht:List zZ}{pls nls:List zu}{vs:κ}{pl:List Nat}
theorem PY:(prog.info? 204).map (fun i=>(i.zero,i.size,i.bytes))=some (some (.agg #[ι 0,ν]),2,32):=by kernel_rfl
def vn(t:List zh)(ns:κ)(c:zd)(o:Option (List Int)):zr:=
 {qh:=xr t c.head.pred,vars:=(zw c).length,head:=zL t ns (zw c) (yB (o.getD [])) c.head,qc:=(c.body.filter fun l=>!l.neg).map (zL t ns (zw c) (yB (o.getD []))),qp:=(c.body.filter fun l=>l.neg).map (zL t ns (zw c) (yB (o.getD [])))}
theorem IZ(ps:List (Nat×Value))(x:Nat×Value):dF (ps++[x])=dF ps++[ι (x.1:Nat),x.2]:=by simp[dF]
structure kS (B:Nat) (w0 w:World) (rb rr sb st va hp:Nat) (htv plv nlv:Value) (ht:List zZ) (pls nls:List zu) (vs:κ) (pl:List Nat):Prop where
 box:Q8 w rb #[ι st,ι va,ι hp,htv,plv,nlv] 207
 res:Q8 w rr #[ι 0,ι 0,ι 0,ν,ν,ν] 207
 scope:gF B w sb vs pl
 head:yh B w htv ht
 pln:xX B w plv pls
 nln:xX B w nlv nls
 apart:∀b,plv.ownBlock=some b->nlv.ownBlock≠some b
 below:Below B w0 w
 low:B<=rb/\B<=rr/\rb≠rr
theorem kS.next{B:Nat}{w':World}(h:kS B w0 w rb rr sb st va hp htv plv nlv ht pls nls vs pl)(a:μ w w')(b:B<=w0.heap.size):kS B w0 w' rb rr sb st va hp htv plv nlv ht pls nls vs pl:=
 ⟨h.box.below a,h.res.below a,h.scope.below a,h.head.below a,h.pln.below a,h.nln.below a,h.apart,zQ h.below a b,h.low⟩
theorem gF.saveT{a:Nat}{w w':World}{sb:Nat}{vs:κ}{pl:List Nat}{T:TypeId}{M:List Nat}(h:gF a w sb vs pl)(hs:ze M w w')(b:QU w T M)(m:257≠T)(l:9≠T):gF a w' sb vs pl:=by
 obtain⟨c,k,i,f,d,j,e,g,n⟩:=h;exact⟨c,k,i,f,d,j,e,g.saveT hs b m,yF n hs b l⟩
theorem xX.push{e:Nat}{w':World}{v:Value}{c:List zu}{ps:List (Nat×Value)}{l:zu}{tv:Value}(j:w.ownsRow e 204 2 v c.length (dF ps))(h:ps.length=c.length)(g:∀k (j:k<c.length) (h:k<ps.length),ps[k].1=c[k].pred/\yh e w ps[k].2 c[k].qg/\c[k].pred<=1000000)(m:c.length+1<=1000)(n:yh e w tv l.qg)(hp:l.pred<=1000000)
  (o:w'.ownsRow e 204 2 v' (c.length+1) (dF ps++[ι l.pred,tv])) (hs:ze v.ownBlock.toList w w'):xX e w' v' (c++[l]):=by
 have i:=QU.own j;refine⟨ps++[(l.pred,tv)],by rw[IZ,yq];exact o,by simp[h],by simpa using m,fun k a b=>?_⟩;by_cases f:k<c.length
 ·have d:k<ps.length:=by omega
  rw[vu f,vu d];exact⟨(g k f d).1,(g k f d).2.1.saveT hs i (by decide),(g k f d).2.2⟩
 ·obtain rfl:k=c.length:=by simp at a;omega
  simp only[←h,rP];exact⟨trivial,n.saveT hs i (by decide),hp⟩
theorem kS.pushP{B:Nat}{i:World}{d:List zu}(h:kS B w0 w rb rr sb st va hp htv plv nlv ht pls nls vs pl)(hs:ze plv.ownBlock.toList w i)(m:v'.ownBlock=plv.ownBlock∨∃g,v'.ownBlock=some g/\w.heap.size<=g)(s:xX B i v' d)(v:B<=w.heap.size):kS B w0 (i.setCell ⟨rb,4,none⟩ v') rb rr sb st va hp htv v' nlv ht d nls vs pl:=by
 obtain⟨z,o,_⟩:=h.pln;have l:=QU.own o;have k:=h.box.saveT hs l (by decide);have a:=QU.box k;have c:ze [rb] i (i.setCell ⟨rb,4,none⟩ v'):=ze.set _ _ _ _;have p:=k.set 4 v';have n:=h.nln.saveT hs l (by decide) fun b f y=>h.apart b (yr y) f;refine⟨by simpa using p,(h.res.saveT hs l (by decide)).set_ne (Ne.symm h.low.2.2) _ _,(h.scope.saveT hs l (by decide) (by decide)).saveT c a (by decide) (by decide),(h.head.saveT hs l (by decide)).saveT c a (by decide),s.saveTT c a (by decide) (by decide),n.saveTT c a (by decide) (by decide),fun b f j=>?_,?_,h.low⟩
 ·obtain⟨q,t,_⟩:=h.nln;have u:=xI t j;rcases m with e|⟨g,e,A⟩
  ·rw[e] at f;exact h.apart b f j
  ·rw[e] at f;simp only[zt] at f;omega
 ·exact(h.below.trans (hs.below (fun x r=>yV o (yr r)) v)).setCell h.low.1 _
theorem kS.pushN{B:Nat}{i:World}{f:List zu}(h:kS B w0 w rb rr sb st va hp htv plv nlv ht pls nls vs pl)(hs:ze nlv.ownBlock.toList w i)(m:v'.ownBlock=nlv.ownBlock∨∃g,v'.ownBlock=some g/\w.heap.size<=g)(s:xX B i v' f)(v:B<=w.heap.size):kS B w0 (i.setCell ⟨rb,5,none⟩ v') rb rr sb st va hp htv plv v' ht pls f vs pl:=by
 obtain⟨z,o,_⟩:=h.nln;have k:=QU.own o;have j:=h.box.saveT hs k (by decide);have c:=QU.box j;have d:ze [rb] i (i.setCell ⟨rb,5,none⟩ v'):=ze.set _ _ _ _;have p:=j.set 5 v';have n:=h.pln.saveT hs k (by decide) fun b l y=>h.apart b l (yr y);refine⟨by simpa using p,(h.res.saveT hs k (by decide)).set_ne (Ne.symm h.low.2.2) _ _,(h.scope.saveT hs k (by decide) (by decide)).saveT d c (by decide) (by decide),(h.head.saveT hs k (by decide)).saveT d c (by decide),n.saveTT d c (by decide) (by decide),s.saveTT d c (by decide) (by decide),fun b l a=>?_,?_,h.low⟩
 ·obtain⟨q,t,_⟩:=h.pln;have u:=xI t l;rcases m with e|⟨g,e,A⟩
  ·rw[e] at a;exact h.apart b l a
  ·rw[e] at a;simp only[zt] at a;omega
 ·exact(h.below.trans (hs.below (fun x r=>yV o (yr r)) v)).setCell h.low.1 _
theorem iU{α:Type}(p:α->Bool)(l:List α)(k:Nat)(a:k<l.length):(l.take (k+1)).filter p=(l.take k).filter p++(if p l[k] then [l[k]] else []):=by
 rw[yL a,rL];congr 1;cases h:p l[k]<;>simp[h]
theorem Ea(t:List zh)(n:ByteArray):zO t n<=t.length:=by
 unfold zO;split
 ·exact iX t n
 ·omega
theorem NQ(os:List Int)(h:os.length<=1000):∀y∈yB os,y<=1000:=by
 have:∀(l:List (Int×Nat)) (pl:List Nat),(∀x∈l,x.2<=1000)->(∀y∈pl,y<=1000)->∀y∈l.foldl vD pl,y<=1000:=by
  intro l;induction l with
  |nil=>intro pl _ h;exact h
  |cons x l d=>
   intro pl c b;refine d _ (fun y a=>c y (pE _ a)) fun y a=>?_;unfold vD at a;split at a
   ·rcases pG a with q|q
    ·exact b y q
    ·subst q;exact c x (by simp)
   ·exact b y a
 refine this _ _ (fun x e=>?_) (by decide);have:=List.snd_lt_of_mem_zipIdx e;omega
def Lb(w:World)(r:zr)(e:Ending)(w':World):Prop:=∃b c a,e=ε (kT r b c a)/\vy w.heap.size w' b c a r/\μ w w'
theorem Pz{ac:Nat}(w:World)(mb tb o cb:Nat)(t:List zh)(ns:κ)(c:zd)(va vb ov:Value)(S:Option (List Int))(h:mY lo w mb tb o cb t ns)(hs:QF ac w va c.head.args)(hb:Rg ac w vb c.body)(hl:c.head.args.length+yS c.body<=1000)(ci:c.body.length<=900)(ho:uA w ov S)(bt:(S.getD []).length<=1000)(bI:xr t c.head.pred<=1000000):
  Calls prog 117 #[(π mb),.agg #[.bool c.head.neg,.string c.head.pred,va,vb],ov] w fun e U=>Lb w (vn t ns c S) e U:=by
 obtain⟨i0,hi,ba,br,bz⟩:=info_parts PY;obtain⟨ao,aP,rfl⟩:=hs.qx;obtain⟨aH,ae,rfl⟩:=hb.qx;obtain⟨bY,b6,rfl⟩:=ho.qx;have bs:=Q7 fun W K=>Ow W c _ _ _ S (hs.below K) (hb.below K) hl (by omega) (ho.below K) bt;have bk:=tg c.body [];have bQ:(zw c).length<=1000:=by unfold zw;simp at bk;omega
 clear bk;have aR:Hid (∀W sb (l:zj) (va:Value) (b1 b2:Nat),μ w W->gF b1 W sb (zw c) (yB (S.getD []))->QF b2 W va l.args->l.args.length<=1000->Calls prog 160 #[(π mb),.agg #[.bool l.neg,.string l.pred,va],(π sb)] W fun e U=>∃tv,e=ε (.agg #[ι (zO t l.pred:Nat),tv])/\yh W.heap.size U tv (zL t ns (zw c) (yB (S.getD [])) l).qg/\μ W U):=fun W sb l va b1 b2 K bG bL bX=>Di W mb tb o cb sb t ns _ _ l _ (h.below K) bG bQ (NQ _ bt) bL bX;have bD:=Q7 fun W K=>JU lo W tb o t c.head.pred (h.2.1.below K) h.2.2.2.1;have bw:=Q7 h.2.2.2.1;have bN:=h.1;obtain⟨bv,cm,bO⟩:=bN.boxed;have bM:w.cell? ⟨mb,0,none⟩=some (.pointer (some ⟨tb,o,none⟩)):=by rw[bv];rfl
 have bV:=Q7 hs;have bH:=Q7 hb;have HE:Hid (vn t ns c S={qh:=xr t c.head.pred,vars:=(zw c).length,head:=zL t ns (zw c) (yB (S.getD [])) c.head,qc:=(c.body.filter fun l=>!l.neg).map (zL t ns (zw c) (yB (S.getD []))),qp:=(c.body.filter fun l=>l.neg).map (zL t ns (zw c) (yB (S.getD [])))}):=rfl;have H5:Hid ((yB (S.getD [])).length=5):=sI _;clear h hs hb ho bv;generalize zw c=vs at *;generalize yB (S.getD [])=pl at *;generalize xr t c.head.pred=st at *;generalize (yo t c.head.pred).isSome=cl at *;obtain⟨n,d,f,m,j,rfl⟩:=five H5.out;have ay:Hid (∀W,μ w W->Calls prog 158 #[.agg #[.bool c.head.neg,.string c.head.pred,.slice ao c.head.args.length aP,.slice aH c.body.length ae],.slice bY (S.getD []).length b6] W fun e U=>∃nv,e=ε (.agg #[nv,ι n,ι d,ι f,ι m,ι j])/\QF W.heap.size U nv vs/\μ W U):=bs;clear bs H5;go_enter func117,ntmps117;go_upto_region 2 with (first|(go_at_call 158;refine(ay.out _ (by exact(by go_grown))).mono ?_;rintro e w1 ⟨nv,rfl,aV,ax⟩;obtain⟨aS,al,rfl⟩:=aV.qx))
 have bg:μ w w1:=zQ (by go_grown) ax (zg _);have a2:=((Q8.new w #[.bool c.head.neg,.string c.head.pred,.slice ao c.head.args.length aP,.slice aH c.body.length ae] 171).below ((zo _ _).alloc (zg _) (.cells #[ι 0,ι 0,ι 0,ν,ν,ν] 207))).below ax;have N:=(Q8.new (w.alloc (.cells #[.bool c.head.neg,.string c.head.pred,.slice ao c.head.args.length aP,.slice aH c.body.length ae] 171)) #[ι 0,ι 0,ι 0,ν,ν,ν] 207).below ax;rw[World.size_alloc] at N;have a3:=aV.low (show w.heap.size<=_ by simp;omega);have u:μ w1 (w1.alloc (.cells #[.slice aS vs.length al,ι n,ι d,ι f,ι m,ι j] 257)):=(by go_grown);have aD:=Q8.new w1 #[.slice aS vs.length al,ι n,ι d,ι f,ι m,ι j] 257;have aa:=a2.below u;have a6:=N.below u;have a8:=a3.below u;have p:=QB bg u;have ce:=N.lt;clear a2 N a3 aV ax u;generalize w1.alloc (.cells #[.slice aS vs.length al,ι n,ι d,ι f,ι m,ι j] 257)=V at *;generalize w1.heap.size=sb at *;clear bg w1;obtain⟨Z,ak,F⟩:=aa.boxed;have bT:=zl p bO bM;have aM:=p.size;have b7:mb<V.heap.size:=by omega
 go_quiet ((go_at_call 159;exact Calls.quiet_of_same (bD.out _ (by exact(zJ p _)))))
 clear ay bD bT Z ak F aM b7;have hq:μ V (V.drewN nq):=zJ (zo _ _) nq;have a9:=aa.below hq;have a4:=a6.below hq;have aq:=a8.below hq;have M:=aD.below hq;have aY:=QB p hq;clear hq aa a6 a8 aD p;generalize V.drewN nq=w3 at *;clear V nq;have cj:=aY.size;obtain⟨a0,bd,bA⟩:=M.boxed;go_upto_region 4 with (first|(go_at_call 146;refine(wW _ _ _ vs (by rw[a0];rfl) aq).mono ?_;rintro e w4 ⟨rfl,bK⟩;obtain rfl:=bK.symm))
 clear a0 bd bA;have u:μ w3 (w3.alloc (.cells #[ι st,ι vs.length,ι 0,ν,ν,ν] 207)):=(by go_grown);have aA:=Q8.new w3 #[ι st,ι vs.length,ι 0,ν,ν,ν] 207;have au:=a9.below u;have aB:=a4.below u;have a7:=aq.below u;have az:=M.below u;have af:=QB aY u;have cf:=M.lt;clear a9 a4 aq M u;generalize w3.alloc (.cells #[ι st,ι vs.length,ι 0,ν,ν,ν] 207)=w4 at *;generalize w3.heap.size=rb at *;clear aY w3;have bc:=af.size;obtain⟨Z,ak,F⟩:=au.boxed;have ad:Hid (gF w.heap.size w4 sb vs [n,d,f,m,j]):=⟨_,n,d,f,m,j,rfl,az,a7⟩;go_upto_region 5 with (first|(go_at_call 160;refine(aR.out _ _ c.head _ _ _ (by exact af) (by exact ad.out) (by exact bV.out.below af) (by omega)).mono ?_;rintro e w5 ⟨tv,rfl,aj,R⟩;obtain⟨B,s,rfl⟩:=aj.qx;have L:=aA.below R;obtain⟨aZ,bq,bb⟩:=L.boxed))
 have bn:yh w.heap.size w5 _ _:=⟨yt aj.own bc,aj.len,aj.num⟩;have Y:rb≠w.heap.size+1:=by omega
 have hM:kS w.heap.size w ((w5.setCell ⟨rb,2,none⟩ (ι (zO t c.head.pred:Nat))).setCell ⟨rb,3,none⟩ (.slice B (zL t ns vs [n,d,f,m,j] c.head).qg.length s)) rb (w.heap.size+1) sb st vs.length (zO t c.head.pred) (.slice B (zL t ns vs [n,d,f,m,j] c.head).qg.length s) (ν) (ν) (zL t ns vs [n,d,f,m,j] c.head).qg [] [] vs [n,d,f,m,j]:=by
  have b5:ze [rb] w5 ((w5.setCell ⟨rb,2,none⟩ (ι (zO t c.head.pred:Nat))).setCell ⟨rb,3,none⟩ (.slice B (zL t ns vs [n,d,f,m,j] c.head).qg.length s)):=(ze.set _ _ _ _).trans (ze.set _ _ _ _);have bm:=QU.box L;have hq:=(L.set 2 (ι (zO t c.head.pred:Nat))).set 3 (.slice B (zL t ns vs [n,d,f,m,j] c.head).qg.length s);refine⟨by simpa using hq,((aB.below R).set_ne (Ne.symm Y) _ _).set_ne (Ne.symm Y) _ _,(ad.out.below R).saveT b5 bm (by decide) (by decide),bn.saveT b5 bm (by decide),⟨[],yD _ _ _ _,rfl,by simp,fun k a=>by simp at a⟩,⟨[],yD _ _ _ _,rfl,by simp,fun k a=>by simp at a⟩,fun b hb=>by simp[Value.ownBlock] at hb,((QB af R).setCell (by simp;omega) _).setCell (by simp;omega) _,by omega,by omega,Y⟩
 have aE:=((au.below R).set_ne (show w.heap.size≠rb by omega) 2 (ι (zO t c.head.pred:Nat))).set_ne (show w.heap.size≠rb by omega) 3 (.slice B (zL t ns vs [n,d,f,m,j] c.head).qg.length s);generalize (w5.setCell ⟨rb,2,none⟩ (ι (zO t c.head.pred:Nat))).setCell ⟨rb,3,none⟩ (.slice B (zL t ns vs [n,d,f,m,j] c.head).qg.length s)=w6 at *;clear L aZ bq bb aj bn R w5 Z ak F ad bc af au aB a7 az aA w4;generalize aw:Value.slice B (zL t ns vs [n,d,f,m,j] c.head).qg.length s=htv at *;have bU:=Q7 aw;clear aw;obtain⟨Z,ak,F⟩:=aE.boxed;go_wp2;clear Z ak F aE;have z:Hid (kS _ _ _ _ _ _ _ _ _ _ _ _ _ _ _ _ _):=hM;clear hM;go_loopw [40] (fun bW wr=>∃(k:Nat) (plv nlv:Value),k<=c.body.length/\bW=ι k/\Hid (kS w.heap.size w wr rb (w.heap.size+1) sb st vs.length (zO t c.head.pred) htv plv nlv (zL t ns vs [n,d,f,m,j] c.head).qg (((c.body.take k).filter fun l=>!l.neg).map (zL t ns vs [n,d,f,m,j])) (((c.body.take k).filter fun l=>l.neg).map (zL t ns vs [n,d,f,m,j])) vs [n,d,f,m,j])) (fun i _=>c.body.length-(intOf i).toNat)
 case atStart=>exact⟨0,_,_,zv _,rfl,z⟩
 case round=>
  clear z;obtain⟨k,plv,nlv,hk,rfl,z⟩:=hrel;have A:=z.out.below;have ch:=A.size;by_cases ar:k<c.body.length
  ·obtain⟨g,Q,x,bZ,hg,b3,bC,bo,b8⟩:=bH.out.cell k ar;subst bZ;have bE:c.body[k].args.length<=1000:=by
    have:=pW c.body k ar;rw[yp ar] at this;simp at this;omega
   have bx:=zl A hg b3;have ck:=zl A hg bC;have cn:=zl A hg bo;have u:g<wr.heap.size:=by omega
   have T:=iU (fun l:zj=>!l.neg) c.body k ar;have P:=iU (fun l:zj=>l.neg) c.body k ar;have be:Hid (QF ac w _ _):=b8;have bP:=Ea t c.body[k].pred;have bS:=bw.out;clear b3 bC bo b8;generalize c.body[k]=l at *;have ca:(((c.body.take k).filter fun l=>!l.neg).map (zL t ns vs [n,d,f,m,j])).length<=k:=by
    have:=pf (fun l:zj=>!l.neg) (c.body.take k);simp at this ⊢;omega
   have cg:(((c.body.take k).filter fun l=>l.neg).map (zL t ns vs [n,d,f,m,j])).length<=k:=by
    have:=pf (fun l:zj=>l.neg) (c.body.take k);simp at this ⊢;omega
   cases hn:l.neg with
   |false=>
    rw[hn] at bx;simp only[hn,Bool.not_false,if_true,gJ,if_false,qM] at T P;have aO:Hid (((c.body.take (k+1)).filter fun l=>!l.neg).map (zL t ns vs [n,d,f,m,j])=((c.body.take k).filter fun l=>!l.neg).map (zL t ns vs [n,d,f,m,j])++[zL t ns vs [n,d,f,m,j] l]):=by rw[Hid,T,uP];rfl
    have aT:Hid (((c.body.take (k+1)).filter fun l=>l.neg).map (zL t ns vs [n,d,f,m,j])=((c.body.take k).filter fun l=>l.neg).map (zL t ns vs [n,d,f,m,j])):=by rw[Hid,P]
    clear T P;generalize ((c.body.take k).filter fun l=>!l.neg).map (zL t ns vs [n,d,f,m,j])=pls at *;generalize ((c.body.take k).filter fun l=>l.neg).map (zL t ns vs [n,d,f,m,j])=nls at *;have aJ:Hid (∀W,μ wr W->Calls prog 160 #[(π mb),.agg #[.bool false,.string l.pred,.slice Q l.args.length x],(π sb)] W fun e U=>∃tv,e=ε (.agg #[ι (zO t l.pred:Nat),tv])/\yh W.heap.size U tv (zL t ns vs [n,d,f,m,j] l).qg/\μ W U):=fun W K=>by
     have q:=aR.out W sb l (.slice Q l.args.length x) w.heap.size ac (QB A K) (z.out.scope.below K) (be.out.below (QB A K)) bE;rw[hn] at q;exact q
    generalize X:(zL t ns vs [n,d,f,m,j] l).qg=ts at *;have aN:=Q7 X;have av:Hid ((zL t ns vs [n,d,f,m,j] l).pred=zO t l.pred):=rfl;clear X;generalize zO t l.pred=fn at *;obtain⟨ps,G,E,_,D⟩:=z.out.pln;obtain⟨O,y,ah⟩:=zp G;subst ah;have J:=Q7 D;clear D;have b9:pls.length<=900:=by omega
    have am:=Q7 E;clear E;go_wp2_with (first|(go_at_call 160;refine(aJ.out _ (by exact(by go_grown))).mono ?_;rintro e V ⟨tv,rfl,C,ap⟩;obtain⟨aG,ai,rfl⟩:=C.qx;have p:μ wr V:=(zQ (by go_grown) ap (zg _));have aX:=(Q8.new wr #[.bool false,.string l.pred,.slice Q l.args.length x] 90).below ap;obtain⟨b4,bi,bh⟩:=aX.boxed;have H:=z.out.box.below p;obtain⟨aC,aF,a1⟩:=H.boxed;have aM:=p.size;have r:=zB G p)|(at_builtin;refine kH V _ [ι fn,.slice aG ts.length ai] _ rfl (.tmp 56) (.tmp 58) 205 rfl w.heap.size 204 i0 _ 2 32 underlying205 hi ba br bz rfl (by decide) (.slice O pls.length y) pls.length (dF ps) rfl r (by exact(by go_grown)) _ _ rfl (by simp) rfl (by simp[Value.oneCell']) (by omega) (by omega) (by omega) ?_;intro v' w3 an I ab;obtain⟨bR,bp,rfl⟩:=zp an;have ag:=H.saveT I (QU.own r) (by decide);obtain⟨aW,aQ,aI⟩:=ag.boxed))
    have aU:kS _ _ _ _ _ _ _ _ _ _ _ _ _ _ _ _ _:=(z.out.next p (zg _)).pushP I ab (xX.push (l:=zL t ns vs [n,d,f,m,j] l) r am.out (fun k a b=>⟨(J.out k a b).1,(J.out k a b).2.1.below p,(J.out k a b).2.2⟩) (by omega) (by rw[aN.out];exact⟨yt C.own (by simp;omega),C.len,C.num⟩) (by rw[av.out];omega) (by rw[av.out];exact an) I) (by omega);go_roundw
    ·exact⟨k+1,_,_,by omega,by go_num,by rw[aO.out,aT.out];exact aU⟩
    ·simp[intOf];omega
   |true=>
    rw[hn] at bx;simp only[hn,m4,if_true,gJ,if_false,qM] at T P;have aO:Hid (((c.body.take (k+1)).filter fun l=>!l.neg).map (zL t ns vs [n,d,f,m,j])=((c.body.take k).filter fun l=>!l.neg).map (zL t ns vs [n,d,f,m,j]) ):=by rw[Hid,T]
    have aT:Hid (((c.body.take (k+1)).filter fun l=>l.neg).map (zL t ns vs [n,d,f,m,j])=((c.body.take k).filter fun l=>l.neg).map (zL t ns vs [n,d,f,m,j])++[zL t ns vs [n,d,f,m,j] l]):=by rw[Hid,P,uP];rfl
    clear T P;generalize ((c.body.take k).filter fun l=>!l.neg).map (zL t ns vs [n,d,f,m,j])=pls at *;generalize ((c.body.take k).filter fun l=>l.neg).map (zL t ns vs [n,d,f,m,j])=nls at *;have aJ:Hid (∀W,μ wr W->Calls prog 160 #[(π mb),.agg #[.bool true,.string l.pred,.slice Q l.args.length x],(π sb)] W fun e U=>∃tv,e=ε (.agg #[ι (zO t l.pred:Nat),tv])/\yh W.heap.size U tv (zL t ns vs [n,d,f,m,j] l).qg/\μ W U):=fun W K=>by
     have q:=aR.out W sb l (.slice Q l.args.length x) w.heap.size ac (QB A K) (z.out.scope.below K) (be.out.below (QB A K)) bE;rw[hn] at q;exact q
    generalize X:(zL t ns vs [n,d,f,m,j] l).qg=ts at *;have aN:=Q7 X;have av:Hid ((zL t ns vs [n,d,f,m,j] l).pred=zO t l.pred):=rfl;clear X;generalize zO t l.pred=fn at *;obtain⟨ps,G,E,_,D⟩:=z.out.nln;obtain⟨O,y,ah⟩:=zp G;subst ah;have J:=Q7 D;clear D;have b9:nls.length<=900:=by omega
    have am:=Q7 E;clear E;go_wp2_with (first|(go_at_call 160;refine(aJ.out _ (by exact(by go_grown))).mono ?_;rintro e V ⟨tv,rfl,C,ap⟩;obtain⟨aG,ai,rfl⟩:=C.qx;have p:μ wr V:=(zQ (by go_grown) ap (zg _));have aX:=(Q8.new wr #[.bool true,.string l.pred,.slice Q l.args.length x] 90).below ap;obtain⟨b4,bi,bh⟩:=aX.boxed;have H:=z.out.box.below p;obtain⟨aC,aF,a1⟩:=H.boxed;have aM:=p.size;have r:=zB G p)|(at_builtin;refine kH V _ [ι fn,.slice aG ts.length ai] _ rfl (.tmp 50) (.tmp 52) 205 rfl w.heap.size 204 i0 _ 2 32 underlying205 hi ba br bz rfl (by decide) (.slice O nls.length y) nls.length (dF ps) rfl r (by exact(by go_grown)) _ _ rfl (by simp) rfl (by simp[Value.oneCell']) (by omega) (by omega) (by omega) ?_;intro v' w3 an I ab;obtain⟨bR,bp,rfl⟩:=zp an;have ag:=H.saveT I (QU.own r) (by decide);obtain⟨aW,aQ,aI⟩:=ag.boxed))
    have aU:kS _ _ _ _ _ _ _ _ _ _ _ _ _ _ _ _ _:=(z.out.next p (zg _)).pushN I ab (xX.push (l:=zL t ns vs [n,d,f,m,j] l) r am.out (fun k a b=>⟨(J.out k a b).1,(J.out k a b).2.1.below p,(J.out k a b).2.2⟩) (by omega) (by rw[aN.out];exact⟨yt C.own (by simp;omega),C.len,C.num⟩) (by rw[av.out];omega) (by rw[av.out];exact an) I) (by omega);go_roundw
    ·exact⟨k+1,_,_,by omega,by go_num,by rw[aT.out,aO.out];exact aU⟩
    ·simp[intOf];omega
  ·have b0:k=c.body.length:=by omega
   have bF:Hid (c.body.take k=c.body):=by rw[Hid,b0,vr]
   rw[bF.out] at z;have H:=z.out.box;have bu:=z.out.res;obtain⟨aC,aF,a1⟩:=H.boxed;obtain⟨bB,cd,cc⟩:=bu.boxed;have aw:=bU.out;subst aw;obtain⟨O,y,ah⟩:=zp z.out.pln.choose_spec.1;obtain⟨bf,a5,bJ⟩:=zp z.out.nln.choose_spec.1;subst ah;subst bJ;clear b0;generalize (c.body.filter fun l=>!l.neg).map (zL t ns vs [n,d,f,m,j])=pls at *;generalize (c.body.filter fun l=>l.neg).map (zL t ns vs [n,d,f,m,j])=nls at *;go_wp2
   (try simp only[Exit.inBlock,Exit.then])
   refine zK (v:=.agg #[ι st,ι vs.length,ι (zO t c.head.pred:Nat),.slice B (zL t ns vs [n,d,f,m,j] c.head).qg.length s,.slice O pls.length y,.slice bf nls.length a5]) (by simp[results,results117,go_sem,bB]) rfl ⟨_,_,_,by rw[HE.out];rfl,?_,?_⟩
   ·have aL:ze [w.heap.size+1] wr ((((((wr.setCell ⟨w.heap.size+1,0,none⟩ (ι st)).setCell ⟨w.heap.size+1,1,none⟩ (ι vs.length)).setCell ⟨w.heap.size+1,2,none⟩ (ι (zO t c.head.pred:Nat))).setCell ⟨w.heap.size+1,3,none⟩ (.slice B (zL t ns vs [n,d,f,m,j] c.head).qg.length s)).setCell ⟨w.heap.size+1,4,none⟩ (.slice O pls.length y)).setCell ⟨w.heap.size+1,5,none⟩ (.slice bf nls.length a5)):=(((((ze.set _ _ _ _).trans (ze.set _ _ _ _)).trans (ze.set _ _ _ _)).trans (ze.set _ _ _ _)).trans (ze.set _ _ _ _)).trans (ze.set _ _ _ _);have aK:=QU.box bu;have bP:=Ea t c.head.pred;have bS:=bw.out;rw[HE.out];exact⟨z.out.head.saveT aL aK (by decide),z.out.pln.saveTT aL aK (by decide) (by decide),z.out.nln.saveTT aL aK (by decide) (by decide),bI,by simp only;omega,by show zO t c.head.pred<=1000000;omega⟩
   ·exact(((((A.setCell (by simp) _).setCell (by simp) _).setCell (by simp) _).setCell (by simp) _).setCell (by simp) _).setCell (by simp) _
end
section
open Go.Proofs.Tryz Go.RowKit
variable {lo:Nat}{w w0:World}{v' mv1 mv2 av fv rv:Value}{rs:List zr}{ps:List (Value×Value×Value)}{sb sr mb wd:Nat}{xs:List Nat}
theorem Q1:(prog.info? 210).map (fun i=>(i.zero,i.size,i.bytes))=some (some (.agg #[ι 0,ι 0,ι 0,ι 0]),4,32):=by kernel_rfl
theorem Q3:(prog.info? 207).map (fun i=>(i.zero,i.size,i.bytes))=some (some (.agg #[ι 0,ι 0,ι 0,ν,ν,ν]),6,96):=by kernel_rfl
def rx(f:jj):List Value:=[ι f.pred,ι (f.row.getD 0 0:Nat),ι (f.row.getD 1 0:Nat),ι (f.row.getD 2 0:Nat)]
def kQ(fs:List jj):List Value:=fs.flatMap rx
def ph(r:zr)(p:Value×Value×Value):List Value:=[ι r.qh,ι r.vars,ι r.head.pred,p.1,p.2.1,p.2.2]
def kP(rs:List zr)(ps:List (Value×Value×Value)):List Value:=(List.zipWith ph rs ps).flatten
theorem OJ(fs:List jj)(f:jj):kQ (fs++[f])=kQ fs++rx f:=by simp[kQ]
theorem G1(rs:List zr)(ps:List (Value×Value×Value))(r:zr)(p:Value×Value×Value)(h:ps.length=rs.length):kP (rs++[r]) (ps++[p])=kP rs ps++ph r p:=by
 unfold kP;rw[iw h.symm];simp
def rc(lo:Nat)(w:World)(v:Value)(fs:List jj):Prop:=w.ownsRow lo 210 4 v fs.length (kQ fs)
structure qz (lo:Nat) (w:World) (v:Value) (rs:List zr) (ps:List (Value×Value×Value)):Prop where
 own:w.ownsRow lo 207 6 v rs.length (kP rs ps)
 len:ps.length=rs.length
 rule:∀k (_:k<rs.length) (_:k<ps.length),vy lo w ps[k].1 ps[k].2.1 ps[k].2.2 rs[k]
 few:rs.length<=1000
theorem qz.below{w w':World}{v:Value}{rs:List zr}{ps:List (Value×Value×Value)}(h:qz lo w v rs ps)(c:μ w w'):qz lo w' v rs ps:=⟨zB h.own c,h.len,fun k a b=>(h.rule k a b).below c,h.few⟩
theorem qz.saveT{e:Nat}{w w':World}{v:Value}{rs:List zr}{ps:List (Value×Value×Value)}{T:TypeId}{M:List Nat}(h:qz e w v rs ps)(hs:ze M w w')(f:QU w T M)(g:284≠T)(d:204≠T)(c:207≠T):qz e w' v rs ps:=⟨yF h.own hs f c,h.len,fun k a b=>(h.rule k a b).saveT hs f g d,h.few⟩
theorem qz.push{d:Nat}{w':World}{v:Value}{r:zr}{p:Value×Value×Value}(h:qz d w v rs ps)(g:rs.length+1<=1000)(l:vy d w p.1 p.2.1 p.2.2 r)(j:w'.ownsRow d 207 6 v' (rs.length+1) (kP rs ps++ph r p))(hs:ze v.ownBlock.toList w w'):qz d w' v' (rs++[r]) (ps++[p]):=by
 have e:=QU.own h.own;refine⟨by rw[G1 _ _ _ _ h.len,yq];exact j,by simp[h.len],fun k a b=>?_,by simpa using g⟩;by_cases f:k<rs.length
 ·have c:k<ps.length:=by have:=h.len;omega
  rw[vu f,vu c];exact(h.rule k f c).saveT hs e (by decide) (by decide)
 ·obtain rfl:k=rs.length:=by simp at a;omega
  have i:=h.len;simp only[←i,rP];exact l.saveT hs e (by decide) (by decide)
theorem qz.cell{w:World}{i:Option Addr}{n cap:Nat}{rs:List zr}{ps:List (Value×Value×Value)}(h:qz lo w (.slice i n cap) rs ps)(k:Nat)(z:k<rs.length)(d:k<ps.length):∃g,i=some ⟨g,0,none⟩/\g<w.heap.size/\w.cell? ⟨g,k*6,none⟩=some (ι (rs[k].qh:Nat))/\w.cell? ⟨g,k*6+1,none⟩=some (ι (rs[k].vars:Nat))/\w.cell? ⟨g,k*6+2,none⟩=some (ι (rs[k].head.pred:Nat))/\w.cell? ⟨g,k*6+3,none⟩=some ps[k].1/\w.cell? ⟨g,k*6+4,none⟩=some ps[k].2.1/\w.cell? ⟨g,k*6+5,none⟩=some ps[k].2.2:=by
 obtain⟨g,j,f,_,u,b⟩:=yx h.own (by omega);simp at f;have e:∀(rs:List zr) (ps:List (Value×Value×Value)) (k:Nat) (a:k<rs.length) (c:k<ps.length),(kP rs ps)[k*6]?=some (ι (rs[k].qh:Nat))/\(kP rs ps)[k*6+1]?=some (ι (rs[k].vars:Nat))/\(kP rs ps)[k*6+2]?=some (ι (rs[k].head.pred:Nat))/\(kP rs ps)[k*6+3]?=some ps[k].1/\(kP rs ps)[k*6+4]?=some ps[k].2.1/\(kP rs ps)[k*6+5]?=some ps[k].2.2:=by
  intro rs;induction rs with
  |nil=>intro ps k a;simp at a
  |cons r l v=>
   intro ps k a c;match ps,k,a,c with
   |p::ps,0,_,_=>simp[kP,ph]
   |p::ps,k+1,a,c=>
    have:=v ps k (by simpa using a) (by simpa using c);simp only[kP,lE,nf] at this ⊢;rw[show(k+1)*6=k*6+6 from by omega];have t:k*6+6=(ph r p).length+k*6:=by simp[ph];omega
    rw[t];simp only[Nat.add_assoc,d9 (Nat.le_add_right _ _),wa];simpa using this
 obtain⟨o,m,q,y,s,x⟩:=e rs ps k z d;exact⟨g,f.1,u,b _ _ o,b _ _ m,b _ _ q,b _ _ y,b _ _ s,b _ _ x⟩
theorem AX:∀(fs:List jj) (k:Nat) (h:k<fs.length),(kQ fs)[k*4]?=some (ι (fs[k].pred:Nat))/\(kQ fs)[k*4+1]?=some (ι (fs[k].row.getD 0 0:Nat))/\(kQ fs)[k*4+2]?=some (ι (fs[k].row.getD 1 0:Nat))/\(kQ fs)[k*4+3]?=some (ι (fs[k].row.getD 2 0:Nat))
 |[],k,h=>by simp at h
 |f::l,0,_=>by simp[kQ,rx]
 |f::l,k+1,h=>by
  have:=AX l k (by simpa using h);simp only[kQ,us] at this ⊢;rw[show(k+1)*4=k*4+4 from by omega];have a:k*4+4=(rx f).length+k*4:=by simp[rx];omega
  rw[a];simp only[Nat.add_assoc,d9 (Nat.le_add_right _ _),wa];simpa using this
def uE(t:List zh)(ns:κ)(os:Option (List (Option (List Int))))(cs:List zd):List zr:=cs.zipIdx.filterMap fun x=>if x.1.body.length>0 then some (vn t ns x.1 (xW os x.2)) else none
def vI(t:List zh)(ns:κ)(cs:List zd):List jj:=(cs.filter fun c=>!decide (c.body.length>0)).map (vL t ns)
def vd(t:List zh)(ns:κ)(os:Option (List (Option (List Int))))(cs:List zd):jo:={qf:=ns.length,qj:=t.map (·.jh),facts:=vI t ns cs,rules:=uE t ns os cs}
theorem J4(t:List zh)(ns:κ)(os:Option (List (Option (List Int))))(cs:List zd)(k:Nat)(a:k<cs.length):uE t ns os (cs.take (k+1))=uE t ns os (cs.take k)++(if cs[k].body.length>0 then [vn t ns cs[k] (xW os k)] else []):=by
 unfold uE;rw[yL a,List.zipIdx_append,tn];congr 1;simp only[List.zipIdx_singleton,qC,vB,rQ,List.filterMap_nil];rw[d8 (by omega)];by_cases h:cs[k].body.length>0
 ·rw[zc h,zc h]
 ·rw[za h,za h]
theorem Ph(t:List zh)(ns:κ)(cs:List zd)(k:Nat)(a:k<cs.length):vI t ns (cs.take (k+1))=vI t ns (cs.take k)++(if cs[k].body.length>0 then [] else [vL t ns cs[k]]):=by
 unfold vI;rw[iU _ _ _ a,uP];congr 1;by_cases h:cs[k].body.length>0
 ·simp[h]
 ·simp[h]
theorem FB(t:List zh)(ns:κ)(os:Option (List (Option (List Int))))(cs:List zd):(uE t ns os cs).length<=cs.length:=by
 have:=pY (fun x:zd×Nat=>if x.1.body.length>0 then some (vn t ns x.1 (xW os x.2)) else none) cs.zipIdx;simpa [uE] using this
theorem GE(t:List zh)(ns:κ)(cs:List zd):(vI t ns cs).length<=cs.length:=by
 unfold vI;rw[uu];exact pf _ _
structure jR (B:Nat) (w0 w:World) (sb sr mb:Nat) (mv1 mv2 av fv rv:Value) (wd:Nat) (xs:List Nat) (fs:List jj) (rs:List zr) (ps:List (Value×Value×Value)):Prop where
 box:Q8 w sb #[ι wd,av,fv,rv] 146
 res:Q8 w sr #[ι 0,ν,ν,ν] 146
 mak:Q8 w mb #[mv1,mv2] 200
 ari:w.ownsRow B 3 1 av xs.length (xs.map Rm)
 fac:rc B w fv fs
 rul:qz B w rv rs ps
 below:Below B w0 w
 low:B<=sb/\B<=sr/\sb≠sr
theorem jR.next{B:Nat}{w':World}{fs:List jj}(h:jR B w0 w sb sr mb mv1 mv2 av fv rv wd xs fs rs ps)(a:μ w w')(b:B<=w0.heap.size):jR B w0 w' sb sr mb mv1 mv2 av fv rv wd xs fs rs ps:=
 ⟨h.box.below a,h.res.below a,h.mak.below a,zB h.ari a,zB h.fac a,h.rul.below a,zQ h.below a b,h.low⟩
theorem jR.pushF{B:Nat}{f:World}{fs c:List jj}(h:jR B w0 w sb sr mb mv1 mv2 av fv rv wd xs fs rs ps)(hs:ze fv.ownBlock.toList w f)(j:rc B f v' c)(g:B<=w.heap.size):jR B w0 (f.setCell ⟨sb,2,none⟩ v') sb sr mb mv1 mv2 av v' rv wd xs c rs ps:=by
 have e:=QU.own h.fac;have d:=h.box.saveT hs e (by decide);have a:=QU.box d;have b:ze [sb] f (f.setCell ⟨sb,2,none⟩ v'):=ze.set _ _ _ _;have i:=d.set 2 v';exact⟨by simpa using i,(h.res.saveT hs e (by decide)).set_ne (Ne.symm h.low.2.2) _ _,(h.mak.saveT hs e (by decide)).saveT b a (by decide),yF (yF h.ari hs e (by decide)) b a (by decide),yF j b a (by decide),(h.rul.saveT hs e (by decide) (by decide) (by decide)).saveT b a (by decide) (by decide) (by decide),(h.below.trans (hs.below (fun x k=>yV h.fac (yr k)) g)).setCell h.low.1 _,h.low⟩
theorem jR.pushR{B:Nat}{g:World}{fs:List jj}{c:List zr}{d:List (Value×Value×Value)}(h:jR B w0 w sb sr mb mv1 mv2 av fv rv wd xs fs rs ps)(hs:ze rv.ownBlock.toList w g)(k:qz B g v' c d)(i:B<=w.heap.size):jR B w0 (g.setCell ⟨sb,3,none⟩ v') sb sr mb mv1 mv2 av fv v' wd xs fs c d:=by
 have f:=QU.own h.rul.own;have e:=h.box.saveT hs f (by decide);have a:=QU.box e;have b:ze [sb] g (g.setCell ⟨sb,3,none⟩ v'):=ze.set _ _ _ _;have j:=e.set 3 v';exact⟨by simpa using j,(h.res.saveT hs f (by decide)).set_ne (Ne.symm h.low.2.2) _ _,(h.mak.saveT hs f (by decide)).saveT b a (by decide),yF (yF h.ari hs f (by decide)) b a (by decide),yF (yF h.fac hs f (by decide)) b a (by decide),k.saveT b a (by decide) (by decide) (by decide),(h.below.trans (hs.below (fun x l=>yV h.rul.own (yr l)) i)).setCell h.low.1 _,h.low⟩
structure gz (lo:Nat) (w:World) (av fv rv:Value) (S:jo) (ps:List (Value×Value×Value)):Prop where
 ari:w.ownsRow lo 3 1 av S.qj.length (S.qj.map Rm)
 fac:rc lo w fv S.facts
 rul:qz lo w rv S.rules ps
end
section
open Go.Proofs.Tryz Go.RowKit
variable {lo:Nat}
def Me(w:World)(S:jo)(e:Ending)(w':World):Prop:=∃c a b d,e=ε (.agg #[ι S.qf,c,a,b])/\gz w.heap.size w' c a b S d/\μ w w'
def Sb(t:List zh)(k:Nat):List Nat:=(t.take k).map (·.jh)++List.replicate (t.length-k) 0
theorem ii(t:List zh)(k:Nat)(a:k<=t.length):(Sb t k).length=t.length:=by simp[Sb];omega
theorem Ol(t:List zh)(k:Nat)(a:k<t.length):(Sb t k).set k (uK t k)=Sb t (k+1):=by
 have e:uK t k=t[k].jh:=by simp[uK,a]
 obtain⟨m,b⟩:∃m,t.length-k=m+1:=⟨t.length-k-1,by omega⟩;unfold Sb;rw[e,fM _ _ (by simp;omega),uu,qC,d8 (by omega),kf,b,rH,nW,yL a,uP,show t.length-(k+1)=m from by omega,ky];rfl
theorem Kt(t:List zh):Sb t t.length=t.map (·.jh):=by simp[Sb]
theorem OO{ae:Nat}(w:World)(tb o A:Nat)(t:List zh)(ns:κ)(cs:List zd)(cv ov:Value)(os:Option (List (Option (List Int))))(hT:TG lo w tb o t)(hC:lD lo w A ns)(b1:t.length<=1000)(b2:ns.length<=1000)(ad:Rl ae 171 w cv cs)(aT:∀c∈cs,c.head.args.length+yS c.body<=1000/\c.body.length<=900)(bH:cs.length<=1000)(ho:jF w ov os)(bz:(os.getD []).length<=2000000)(aW:∀o∈os.getD [],(o.getD []).length<=1000)(a9:∀n,xr t n<=1000000):
  Calls prog 73 #[cv,.pointer (some ⟨tb,o,none⟩),(π A),ov] w fun e X=>Me w (vd t ns os cs) e X:=by
 obtain⟨iI,bq,bs,aM,a6⟩:=info_parts Q2;obtain⟨iF,bp,bt,a8,aK⟩:=info_parts Q1;obtain⟨iR,bx,bh,aY,aG⟩:=info_parts Q3;obtain⟨bS,bB,rfl⟩:=ad.qx;obtain⟨bT,bA,rfl⟩:=ho.qx;have aO:=Q7 fun W h=>Mg W A ns (hC.below h);have aC:=Q7 fun W h=>Hw lo W tb o t (hT.below h);have bc:=Q7 fun W i h=>Nu lo W tb o t i (hT.below h);have bo:=Q7 fun W k h=>K9 W _ os k (ho.below h) bz;have b0:Hid (∀k,((xW os k).getD []).length<=1000):=fun k=>by
  unfold xW;by_cases hk:k<(os.getD []).length
  ·rw[gL,yp hk];exact aW _ (zs hk)
  ·rw[gL,kV (by omega)];simp
 have aR:Hid (∀W mb,μ w W->Q8 W mb #[.pointer (some ⟨tb,o,none⟩),(π A)] 200->mY lo W mb tb o A t ns):=fun W mb h hb=>⟨hb,hT.below h,hC.below h,b1,b2⟩;have b4:=Q7 ad;have bg:=Q7 aT;have br:=Q7 a9;have HE:Hid (vd t ns os cs={qf:=ns.length,qj:=t.map (·.jh),facts:=vI t ns cs,rules:=uE t ns os cs}):=rfl;have bd:=fun W:World=>run_make (P:=prog) (w:=W) 24 3 iI _ underlying24 bq bs .i64 .i64 (t.length:Int) (t.length:Int) (by omega) (Int.le_refl _) (by rw[a6];omega) (by omega);rw[aM] at bd;clear hT hC ad ho aT aW a9;go_enter func73,ntmps73;go_upto_region 3 with (first|(go_at_call 114;refine(aO.out _ (by exact(by go_grown))).mono ?_;rintro e w1 ⟨rfl,y⟩;obtain rfl:=y.symm)|(go_at_call 115;refine(aC.out _ (by exact(by go_grown))).mono ?_;rintro e w1 ⟨rfl,y⟩;obtain rfl:=y.symm))
 have hM:jR w.heap.size w ((((w.alloc (.cells #[ι 0,ν,ν,ν] 146)).alloc (.cells #[.pointer (some ⟨tb,o,none⟩),(π A)] 200)).alloc (.cells (madeCells #[ι 0] t.length) 3)).alloc (.cells #[ι ns.length,.slice (some ⟨w.heap.size+1+1,0,none⟩) t.length t.length,ν,ν] 146)) (w.heap.size+1+1+1) w.heap.size (w.heap.size+1) (.pointer (some ⟨tb,o,none⟩)) ((π A)) (.slice (some ⟨w.heap.size+1+1,0,none⟩) t.length t.length) (ν) (ν) ns.length (Sb t 0) [] [] []:=by
  refine⟨(Q8.new _ _ _).at' (by simp),((((Q8.new w _ _).up _).up _).up _),((((Q8.new _ _ _).up _).up _).at' (by simp)),?_,yD _ _ _ _,⟨yD _ _ _ _,rfl,fun k a=>by simp at a,by simp⟩,(by go_grown),by omega,by omega,by omega⟩;have q:=E6 ((w.alloc (.cells #[ι 0,ν,ν,ν] 146)).alloc (.cells #[.pointer (some ⟨tb,o,none⟩),(π A)] 200)) t.length 3 (by unfold maxLen;omega);simp only[World.size_alloc] at q;have q2:=zB (yt q (show w.heap.size<=w.heap.size+1+1 by omega)) ((zo _ _).alloc (zg _) (.cells #[ι ns.length,.slice (some ⟨w.heap.size+1+1,0,none⟩) t.length t.length,ν,ν] 146));rw[ii t 0 (by omega),show Sb t 0=List.replicate t.length 0 from by simp[Sb]];exact q2
 generalize (((w.alloc (.cells #[ι 0,ν,ν,ν] 146)).alloc (.cells #[.pointer (some ⟨tb,o,none⟩),(π A)] 200)).alloc (.cells (madeCells #[ι 0] t.length) 3)).alloc (.cells #[ι ns.length,.slice (some ⟨w.heap.size+1+1,0,none⟩) t.length t.length,ν,ν] 146)=w3 at *;clear bd aO aC;have aP:=hM.box;obtain⟨af,a7,aV⟩:=aP.boxed;go_wp2;clear af a7 aV aP;have d:Hid (jR _ _ _ _ _ _ _ _ _ _ _ _ _ _ _ _):=hM;clear hM;go_loopw [29] (fun bk wr=>∃k:Nat,k<=t.length/\bk=ι k/\Hid (jR w.heap.size w wr (w.heap.size+1+1+1) w.heap.size (w.heap.size+1) (.pointer (some ⟨tb,o,none⟩)) ((π A)) (.slice (some ⟨w.heap.size+1+1,0,none⟩) t.length t.length) (ν) (ν) ns.length (Sb t k) [] [] [])) (fun i _=>t.length-(intOf i).toNat)
 case atStart=>exact⟨0,zv _,rfl,d⟩
 case round=>
  clear d;obtain⟨k,hk,rfl,d⟩:=hrel;have b:=d.out.below;have Y:=b.size;by_cases x:k<t.length
  ·have ai:=d.out.box;obtain⟨af,a7,aV⟩:=ai.boxed;have bR:wr.cell? ⟨w.heap.size+1+1+1,1,none⟩=some (.slice (some ⟨w.heap.size+1+1,0,none⟩) t.length t.length):=by rw[af];rfl
   have G:=d.out.ari;have aq:=ii t k hk;have bG:(k:Int)<(t.length:Int):=by omega
   obtain⟨g',b9,ap,_,bL,N⟩:=yx G (by omega);simp only[Value.slice.injEq,zt,Addr.mk.injEq,and_true] at ap;have bv:=ap.1;clear ap;subst bv;obtain⟨ax,bM⟩:∃ax:Nat,wr.cell? ⟨w.heap.size+1+1,k,none⟩=some (ι (ax:Nat)):=⟨_,N k (ι ((Sb t k)[k]'(by omega):Nat)) (by simp[Rm,aq,x])⟩;have bK:=qO G;have O:=uW G k (by simp;omega) (ι (uK t k:Nat));have a0:Hid (((Sb t k).map Rm).set k (ι (uK t k:Nat))=(Sb t (k+1)).map Rm):=by rw[Hid,←Ol t k x,fu];rfl
   rw[a0.out,aq] at O;have aD:=Q7 fun W h=>bc.out W k (QB b h);clear N aq;generalize uK t k=ar at *;go_wp2;go_region_held3 (fun X=>X.cell? ⟨w.heap.size+1+1+1,1,none⟩=some (.slice (some ⟨w.heap.size+1+1,0,none⟩) t.length t.length)) (first|go_keep|(go_simp;done)) (first|(go_at_call 80;refine(aD.out _ (by exact(by go_grown))).mono ?_;rintro e w4 ⟨rfl,y⟩;obtain rfl:=y.symm))
   go_wp2;have J:jR w.heap.size w (wr.setCell ⟨w.heap.size+1+1,k,none⟩ (ι ar)) (w.heap.size+1+1+1) w.heap.size (w.heap.size+1) (.pointer (some ⟨tb,o,none⟩)) ((π A)) (.slice (some ⟨w.heap.size+1+1,0,none⟩) t.length t.length) (ν) (ν) ns.length (Sb t (k+1)) [] [] []:=
    ⟨d.out.box.set_ne (by omega) _ _,d.out.res.set_ne (by omega) _ _,d.out.mak.set_ne (by omega) _ _,by rw[ii t (k+1) (by omega)];exact O,yD _ _ _ _,⟨yD _ _ _ _,rfl,fun k a=>by simp at a,by simp⟩,b.setCell (by simp;omega) _,d.out.low⟩
   go_roundw
   ·exact⟨k+1,by omega,by go_num,J.next ((zo _ _).drew) (zg _)⟩
   ·simp[intOf];omega
  ·have b5:k=t.length:=by omega
   subst b5;rw[Kt] at d;clear hk x bc;go_wp2;go_loopw [42] (fun bf wr=>∃(k:Nat) (fv rv:Value) (ps:List (Value×Value×Value)),k<=cs.length/\bf=ι k/\Hid (jR w.heap.size w wr (w.heap.size+1+1+1) w.heap.size (w.heap.size+1) (.pointer (some ⟨tb,o,none⟩)) ((π A)) (.slice (some ⟨w.heap.size+1+1,0,none⟩) t.length t.length) fv rv ns.length (t.map (·.jh)) (vI t ns (cs.take k)) (uE t ns os (cs.take k)) ps)) (fun i _=>cs.length-(intOf i).toNat)
   case atStart=>exact⟨0,_,_,_,zv _,rfl,d⟩
   case round=>
    clear d b Y;obtain⟨k,fv,rv,ps,hk,rfl,d⟩:=hrel;have b:=d.out.below;have Y:=b.size;by_cases x:k<cs.length
    ·obtain⟨g,aH,S,aQ,V,b7,hg,aS,bb,aE,az,aX,a1⟩:=b4.out.cell k x;subst b7;have bO:=zl b hg aS;have bF:=zl b hg bb;have bP:=zl b hg aE;have bI:=zl b hg az;have bC:g<wr.heap.size:=by omega
     obtain⟨b6,b3⟩:=bg.out cs[k] (zs x);have D:=Ph t ns cs k x;have F:=J4 t ns os cs k x;have a3:Hid (QF ae w _ _):=aX;have ay:Hid (Rg ae w _ _):=a1;have bw:=GE t ns (cs.take k);have ba:=FB t ns os (cs.take k);rw[qC,d8 (by omega)] at bw ba;clear aS bb aE az aX a1;generalize cs[k]=c at *;by_cases aI:c.body.length>0
     ·have aw:(c.body.length:Int)>0:=by omega
      simp only[aI,if_true,qM] at D F;have am:=Q7 D;have aj:=Q7 F;clear D F;generalize vI t ns (cs.take k)=z at *;generalize uE t ns os (cs.take k)=rs at *;have aU:=Q7 fun W u h hu=>Pz W (w.heap.size+1) tb o A t ns c _ _ u (xW os k) (aR.out W _ (QB b h) (d.out.mak.below h)) (a3.out.below (QB b h)) (ay.out.below (QB b h)) b6 b3 hu (b0.out k) (br.out _);have a2:=Q7 fun W h=>bo.out W k (QB b h);generalize vn t ns c (xW os k)=r at *;have s:=d.out.rul.own;obtain⟨M,C,aa⟩:=zp s;subst aa;have aB:Hid (∀W u,μ wr W->uA W u (xW os k)->Calls prog 117 #[.pointer (some ⟨w.heap.size+1,0,none⟩),.agg #[.bool c.head.neg,.string c.head.pred,.slice aH c.head.args.length S,.slice aQ c.body.length V],u] W fun e X=>∃tv pv nv,e=ε (.agg #[ι r.qh,ι r.vars,ι r.head.pred,tv,pv,nv])/\vy W.heap.size X tv pv nv r/\μ W X):=aU;clear aU;go_wp2_with (first|(go_at_call 116;refine(a2.out _ (by exact(by go_grown))).mono ?_;rintro e w1 ⟨u,rfl,hu,y⟩;obtain rfl:=y.symm;obtain⟨bN,b8,rfl⟩:=hu.qx)|(go_at_call 117;refine(aB.out _ _ (by exact(by go_grown)) hu).mono ?_;rintro e w2 ⟨tv,pv,nv,rfl,L,ao⟩;obtain⟨av,U,rfl⟩:=L.head.qx;obtain⟨a5,Q,rfl⟩:=L.qc.qx;obtain⟨aA,R,rfl⟩:=L.qp.qx;have l:μ wr w2:=(zQ (by go_grown) ao (zg _));have m:=d.out.box.below l;obtain⟨ac,ak,an⟩:=m.boxed;have bm:=l.size;have j:=zB s l)|(at_builtin;refine kH w2 _ [ι r.qh,ι r.vars,ι r.head.pred,.slice av r.head.qg.length U,.slice a5 r.qc.length Q,.slice aA r.qp.length R] _ rfl (.tmp 58) (.tmp 60) 144 rfl w.heap.size 207 iR _ 6 96 underlying144 bx bh aY aG rfl (by decide) (.slice M rs.length C) rs.length (kP rs ps) rfl j (by exact(by go_grown)) _ _ rfl (by simp) rfl (by simp[Value.oneCell']) (by omega) (by omega) (by omega) ?_;intro v' w3 I E a4;obtain⟨aJ,T,rfl⟩:=zp I;have H:=m.saveT E (QU.own j) (by decide);obtain⟨au,al,ag⟩:=H.boxed))
      have aF:vy w.heap.size w2 _ _ _ r:=L.low (show w.heap.size<=_ by simp;omega);have J:jR _ _ _ _ _ _ _ _ _ _ _ _ _ _ _ _:=(d.out.next l (zg _)).pushR E (qz.push (r:=r) (p:=(.slice av r.head.qg.length U,.slice a5 r.qc.length Q,.slice aA r.qp.length R)) (d.out.rul.below l) (by omega) aF I E) (by omega);go_roundw
      ·exact⟨k+1,_,_,_,by omega,by go_num,by rw[am.out,aj.out];exact J⟩
      ·simp[intOf];omega
     ·have aw:¬(c.body.length:Int)>0:=by omega
      simp only[aI,if_false,qM] at D F;have am:=Q7 D;have aj:=Q7 F;clear D F;generalize vI t ns (cs.take k)=z at *;generalize uE t ns os (cs.take k)=rs at *;have aL:=Q7 fun W h=>Nf W (w.heap.size+1) tb o A t ns c _ _ (aR.out W _ (QB b h) (d.out.mak.below h)) (a3.out.below (QB b h)) (ay.out.below (QB b h)) (by omega);generalize vL t ns c=f at *;have aZ:Hid (∀W,μ wr W->Calls prog 118 #[.pointer (some ⟨w.heap.size+1,0,none⟩),.agg #[.bool c.head.neg,.string c.head.pred,.slice aH c.head.args.length S,.slice aQ c.body.length V]] W fun e X=>e=ε (.agg #[ι f.pred,ι (f.row.getD 0 0:Nat),ι (f.row.getD 1 0:Nat),ι (f.row.getD 2 0:Nat)])/\μ W X):=aL;have be:Hid (kQ (z++[f])=kQ z++[ι f.pred,ι (f.row.getD 0 0:Nat),ι (f.row.getD 1 0:Nat),ι (f.row.getD 2 0:Nat)]):=OJ z f;clear aL;generalize f.row.getD 0 0=f0 at *;generalize f.row.getD 1 0=f1 at *;generalize f.row.getD 2 0=f2 at *;have s:wr.ownsRow w.heap.size 210 4 fv z.length (kQ z):=d.out.fac;obtain⟨K,B,ah⟩:=zp s;subst ah;go_wp2_with (first|(go_at_call 118;refine(aZ.out _ (by exact(by go_grown))).mono ?_;rintro e w2 ⟨rfl,ao⟩;have l:μ wr w2:=(zQ (by go_grown) ao (zg _));have m:=d.out.box.below l;obtain⟨ac,ak,an⟩:=m.boxed;have bm:=l.size;have j:=zB s l)|(at_builtin;refine kH w2 _ [ι f.pred,ι f0,ι f1,ι f2] _ rfl (.tmp 66) (.tmp 68) 143 rfl w.heap.size 210 iF _ 4 32 underlying143 bp bt a8 aK rfl (by decide) (.slice K z.length B) z.length (kQ z) rfl j (by exact(by go_grown)) _ _ rfl (by simp) rfl (by simp[Value.oneCell']) (by omega) (by omega) (by omega) ?_;intro v' w3 I E a4;obtain⟨aJ,T,rfl⟩:=zp I;have H:=m.saveT E (QU.own j) (by decide);obtain⟨au,al,ag⟩:=H.boxed))
      have bu:rc w.heap.size w3 (.slice aJ (z.length+1) T) (z++[f]):=by
       unfold rc;rw[be.out,yq];exact I
      have J:jR _ _ _ _ _ _ _ _ _ _ _ _ _ _ _ _:=(d.out.next l (zg _)).pushF E bu (by omega);go_roundw
      ·exact⟨k+1,_,_,_,by omega,by go_num,by rw[am.out,aj.out];exact J⟩
      ·simp[intOf];omega
    ·have bi:Hid (cs.take k=cs):=by rw[Hid,xg (by omega)]
     rw[bi.out] at d;have ai:=d.out.box;have aN:=d.out.res;obtain⟨bE,bQ,bJ⟩:=ai.boxed;obtain⟨bn,bD,ba⟩:=aN.boxed;obtain⟨K,B,ah⟩:=zp d.out.fac;obtain⟨M,C,aa⟩:=zp d.out.rul.own;subst ah;subst aa;generalize vI t ns cs=z at *;generalize uE t ns os cs=rs at *;go_wp2
     (try simp only[Exit.inBlock,Exit.then])
     refine zK (v:=.agg #[ι ns.length,.slice (some ⟨w.heap.size+1+1,0,none⟩) t.length t.length,.slice K z.length B,.slice M rs.length C]) (by simp[results,results73,go_sem,bn]) rfl ⟨_,_,_,ps,by rw[HE.out],?_,?_⟩
     ·have Z:ze [w.heap.size] wr ((((wr.setCell ⟨w.heap.size,0,none⟩ (ι ns.length)).setCell ⟨w.heap.size,1,none⟩ (.slice (some ⟨w.heap.size+1+1,0,none⟩) t.length t.length)).setCell ⟨w.heap.size,2,none⟩ (.slice K z.length B)).setCell ⟨w.heap.size,3,none⟩ (.slice M rs.length C)):=(((ze.set _ _ _ _).trans (ze.set _ _ _ _)).trans (ze.set _ _ _ _)).trans (ze.set _ _ _ _);have ab:=QU.box aN;rw[HE.out];exact⟨yF d.out.ari Z ab (by decide),yF d.out.fac Z ab (by decide),d.out.rul.saveT Z ab (by decide) (by decide) (by decide)⟩
     ·exact(((b.setCell (by simp) _).setCell (by simp) _).setCell (by simp) _).setCell (by simp) _
end
section
variable {cs:List zd}{t t0:List zh}{c:zd}{vs:κ}
structure QN (cs:List zd) (t0 t:List zh):Prop where
 few:RZ cs<=500
 many:∀c∈cs,yE c=false
 coll:ui cs=some t0
 tab:RK t0 (cs.flatMap zk)
 safe:∀c∈cs,xo c=true
 jl:xJ (t0.length+1) t0 cs=(t,true)
theorem Fx{s:ByteArray}(h:xL s=.ok (cs,t)):∃t0,QN cs t0 t:=by
 unfold xL at h;split at h
 ·cases h
 ·rename_i m;split at h
  ·cases h
  ·rename_i n k;split at h
   ·cases h
   ·rename_i j i;split at h
    ·cases h
    ·rename_i f;split at h
     ·cases h
     ·rename_i t0 e;split at h
      ·rename_i a;split at h
       ·rename_i d;obtain⟨rfl,rfl⟩:=h;refine⟨t0,?_,fun c b=>?_,e,AZ e,fun c b=>kh.1 a c b,?_⟩
        ·have l:=tF i;have o:=sA k;omega
        ·cases g:yE c with
         |false=>rfl
         |true=>exact zC (gM.2 ⟨c,b,g⟩) f
        ·rw[←d]
       ·cases h
      ·cases h
def R6(t:List zh):List (ByteArray×Nat):=t.map fun e=>(e.name,e.jh)
theorem PK(t:List zh)(n:ByteArray)(s:Nat):R6 (x6 t n s).1=R6 t:=by
 unfold x6;split
 ·rfl
 ·rename_i e b;split
  ·rfl
  ·obtain⟨h,a,g⟩:=jV b;unfold R6;refine kX (by simp) fun i j f=>?_;simp only[uJ,lO];split
   ·rename_i d;subst d;rw[a]
   ·rfl
theorem Ff:∀(cs:List zd) (x:List zh×Bool),R6 (cs.foldl vU x).1=R6 x.1
 |[],_=>rfl
 |c::cs,x=>by
  rw[ut,Ff cs];exact PK _ _ _
theorem pO:∀(m:Nat) (t:List zh) (cs:List zd),R6 (xJ m t cs).1=R6 t
 |0,_,_=>rfl
 |m+1,t,cs=>by
  have a:R6 (vS t cs).1=R6 t:=Ff cs (t,false);unfold xJ;split
  ·rw[pO m,a]
  ·exact a
theorem Ec{a:List zh}(h:R6 t=R6 a):QA t=QA a:=by
 have:=congrArg (List.map Prod.fst) h;simpa [R6,QA,Function.comp_def] using this
theorem QN.lit(h:QN cs t0 t)(q:c∈cs){l:zj}(u:l∈zk c):∃e,yo t l.pred=some e/\e.name=l.pred/\zO t l.pred<t.length/\(t.map (·.jh)).getD (zO t l.pred) 0=l.args.length/\zO t l.pred=zV t l.pred:=by
 have i:R6 t=R6 t0:=by have:=pO (t0.length+1) t0 cs;rw[h.jl] at this;exact this
 have a:=uS.2 ⟨c,q,u⟩;have g:(yo t0 l.pred).isSome=true:=by
  cases j:yo t0 l.pred with
  |some e=>rfl
  |none=>
   obtain⟨e,r,w⟩:=z7.1 ((h.tab.names l.pred).2 ⟨l,a,rfl⟩);exact zC w (nY h.tab.rise j e r)
 have f:=(AG (Ec i).symm _).1 g;obtain⟨e,j⟩:=mm.1 f;obtain⟨m,n,o⟩:=jV j;have b:zO t l.pred=zV t l.pred:=by unfold zO;rw[zc f]
 refine⟨e,j,o,by rw[b];exact m,?_,b⟩;rw[b];have p:(t.map (·.jh)).getD (zV t l.pred) 0=e.jh:=by simp[List.getD,m,n]
 rw[p];have d:(e.name,e.jh)∈R6 t0:=by
  rw[←i];exact z7.2 ⟨e,by rw[←n];exact zs m,rfl⟩
 obtain⟨s,v,k⟩:=z7.1 d;simp only[ya] at k;rw[←k.2];exact(h.tab.jh s v l a (by rw[k.1,o])).symm
theorem QN.sol(h:QN cs t0 t):R7 cs (val t):=by
 have a:km t0 cs:=by
  intro c d l g;have b:=uS.2 ⟨c,d,g⟩;cases j:yo t0 l.pred with
  |some e=>rfl
  |none=>
   obtain⟨e,f,i⟩:=z7.1 ((h.tab.names l.pred).2 ⟨l,b,rfl⟩);exact zC i (nY h.tab.rise j e f)
 have:=tA (t0.length+1) t0 cs a (by rw[h.jl]);rw[h.jl] at this;exact this
theorem wm(t:List zh)(n:ByteArray):xr t n=val t n:=rfl
theorem KL{a b:ByteArray}{f d:zh}(l:yo t a=some f)(k:yo t b=some d)(e:zV t a=zV t b):a=b:=by
 obtain⟨n,h,j⟩:=jV l;obtain⟨m,g,i⟩:=jV k;have:f=d:=by rw[←h,←g];simp[e]
 rw[←j,←i,this]
theorem p6(p:Nat)(ts:List zZ)(x:zZ):(jv p ts x).var=x.var/\(jv p ts x).num=x.num:=by unfold jv;split<;>exact⟨rfl,rfl⟩
theorem iP(t:List zh)(ns vs:κ)(a:List Nat)(l:zj)(p:Nat):zH (zL t ns vs a l) p=zH ⟨0,uh ns vs a l⟩ p:=by
 unfold zH zL;simp only[List.any_map];congr 1;funext x;simp only[Function.comp,(p6 0 _ x).1,(p6 0 _ x).2]
theorem Jm(t:List zh)(ns vs:κ)(a:List Nat)(l:zj)(p:Nat):yQ (zL t ns vs a l) p=yQ ⟨0,uh ns vs a l⟩ p:=by
 unfold yQ;rw[iP,show zH (zL t ns vs a l)=zH ⟨0,uh ns vs a l⟩ from funext (iP t ns vs a l)]
theorem Hl(ns:κ)(x:ByteArray):(ur ns x).getD 0<zM ns.length:=by
 unfold ur zM;split
 ·rename_i h;simp only[ux];split<;>omega
 ·simp only[gC];split<;>omega
theorem oV(t:List zh)(ns vs:κ)(a:List Nat)(l:zj)(p:∀k,a.getD k 0<5)(q:l.args.length<=3):qT (zL t ns vs a l) l.args.length (zM ns.length):=by
 have b:∀x∈(zL t ns vs a l).qg,∃y∈l.args,x=jv 0 (uh ns vs a l) (uT ns vs a y)/\uT ns vs a y∈uh ns vs a l:=by
  intro x e;unfold zL at e;simp only[z7] at e;obtain⟨z,f,rfl⟩:=e;have g:=f;unfold uh at f;obtain⟨y,i,rfl⟩:=z7.1 f;exact⟨y,i,rfl,g⟩
 refine⟨by simp[zL,uh],q,fun x e d=>?_,fun x e d=>?_⟩
 ·obtain⟨y,i,rfl,m⟩:=b x e;obtain⟨j,n⟩:=p6 0 (uh ns vs a l) (uT ns vs a y);rw[j] at d;rw[n,Jm];refine⟨?_,?_⟩
  ·unfold uT at d ⊢;split
   ·unfold uF;split
    ·exact Nat.lt_of_sub_eq_succ rfl
    ·split
     ·exact Nat.lt_of_sub_eq_succ rfl
     ·exact p _
   ·rename_i h;rw[za h] at d;cases d
  ·have o:zH ⟨0,uh ns vs a l⟩ (uT ns vs a y).num=true:=(hY _ _).2 ⟨_,m,d,rfl⟩;unfold jv;rw[zc d];simp only;unfold yQ;rw[zc o];rfl
 ·obtain⟨y,i,rfl,m⟩:=b x e;obtain⟨j,n⟩:=p6 0 (uh ns vs a l) (uT ns vs a y);unfold uT at d ⊢;split
  ·rename_i h;rw[zc h] at d;cases d
  ·exact Hl ns y
theorem CQ{ns:κ}{b:List Nat}{l:zj}{p:Nat}:zH (zL t ns vs b l) p=true↔∃y∈l.args,zP y=true/\uF vs b y=p:=by
 rw[iP,hY];constructor
 ·rintro⟨x,h,g,f⟩;unfold uh at h;obtain⟨y,d,rfl⟩:=z7.1 h;unfold uT at g f;by_cases a:zP y=true
  ·rw[zc a] at f;exact⟨y,d,a,f⟩
  ·rw[za a] at g;cases g
 ·rintro⟨y,d,a,e⟩;refine⟨uT ns vs b y,z7.2 ⟨y,d,rfl⟩,?_,?_⟩
  ·unfold uT;rw[zc a]
  ·unfold uT;rw[zc a];exact e
theorem Nw(h:vs.Nodup)(x:ByteArray):(jD vs x).Nodup:=by
 unfold jD;split
 ·rename_i d;simp only[uw,Bool.not_eq_true'] at d;rw[qa];refine⟨h,by simp,fun a f b e=>?_⟩;simp at e;subst e;rintro rfl;rw[jQ.2 f] at d;cases d.2
 ·exact h
theorem D5:∀(args vs:κ),vs.Nodup->(xk vs args).Nodup
 |[],_,h=>h
 |x::r,vs,h=>D5 r (jD vs x) (Nw h x)
theorem AH(c:zd):(zw c).Nodup:=by
 have:∀(a:List zj) (vs:κ),vs.Nodup->(a.foldl vN vs).Nodup:=by
  intro a;induction a with
  |nil=>intro vs h;exact h
  |cons l a b=>
   intro vs h;rw[ut];refine b _ ?_;unfold vN;split
   ·exact h
   ·exact D5 _ _ h
 exact this c.body [] List.nodup_nil
theorem lS{α:Type}[DecidableEq α]:∀{l1 l2:List α},l1.Nodup->(∀x∈l1,x∈l2)->l1.length<=l2.length
 |[],l2,_,_=>by simp
 |a::l1,l2,e,d=>by
  have g:=d a (by simp);have h:=lS (l1:=l1) (l2:=l2.erase a) (qN.1 e).2 (fun x f=>by
   have b:x≠a:=by rintro rfl;exact(qN.1 e).1 f
   exact(ld b).2 (d x (by simp[f])))
  rw[lN g] at h;have:=mB g;simp;omega
theorem By:∀{l:κ} (_:l.Nodup) {k:Nat} (f:k<l.length),yu l l[k]=some k
 |y::r,b,0,_=>by simp[yu]
 |y::r,b,k+1,f=>by
  have a:k<r.length:=by simpa using f
  have d:y≠r[k]:=by
   rintro e;exact(qN.1 b).1 (e ▸ zs a)
  simp only[nh,yu,za d,By (qN.1 b).2 a,jA]
theorem sX:∀{ps:κ} {n:ByteArray},n∈ps->∃k,k<ps.length/\yu ps n=some k:=fun{ps n} h=>by
 have:(yu ps n).isSome=true:=by rw[o5];exact jQ.2 h
 obtain⟨k,a⟩:=mm.1 this;obtain⟨b,_⟩:=hO a;exact⟨k,b,a⟩
theorem mj(h:yE c=false):c.head.args.length<=3/\c.body.length<=6/\(∀l∈c.body,l.args.length<=3)/\(xM c).length<=5:=by
 simp only[yE,nK,decide_eq_false_iff_not,List.any_eq_false,decide_eq_true_eq] at h;obtain⟨⟨⟨e,f⟩,b⟩,d⟩:=h;exact⟨by omega,by omega,fun l a=>by have:=b l a;omega,by omega⟩
theorem lu(h:yE c=false):(zw c).length<=5:=by
 have f:=(mj h).2.2.2;have:=lS (AH c) (l2:=xM c) (fun x e=>by
  obtain⟨a,l,b,_,d⟩:=dG.1 e;exact wl.2 ⟨a,zb ⟨l,b,d⟩⟩)
 omega
structure ka (pl:List Nat) (k:Nat):Prop where
 five:∀i,pl.getD i 0<5
 low:∀i,i<k->pl.getD i 0<k
 onto:∀p,p<k->∃i,i<k/\pl.getD i 0=p
theorem Cx(h:QN cs t0 t)(v:c∈cs)(ns:κ)(o:Option (List Int))(u:ka (yB (o.getD [])) (zw c).length):nM (vn t ns c o) (t.map (·.jh)) (zM ns.length):=by
 have F:=h.many c v;obtain⟨Q,S,E,T⟩:=mj F;have N:=lu F;have w:=h.safe c v;simp only[xo,uw,kh,dX,Bool.not_eq_true'] at w;have a:∀{l:zj} {p:Nat},(∀y∈l.args,zP y=true->y∈zw c)->zH (zL t ns (zw c) (yB (o.getD [])) l) p=true->p<(zw c).length:=by
  intro l p s m;obtain⟨y,L,R,r⟩:=CQ.1 m;obtain⟨k,P,O⟩:=sX (s y L R);unfold uF at r;rw[O] at r;simp only at r;rw[za (by omega)] at r;rw[←r];exact u.low k P
 have f:=nm.1 w.1;have d:∀l∈c.body,∀y∈l.args,zP y=true->y∈zw c:=by
  intro l b y G s;cases C:l.neg with
  |false=>exact dG.2 ⟨s,l,b,C,G⟩
  |true=>
   rcases w.2 l b with q|q
   ·rw[C] at q;cases q
   ·exact nm.1 q y G s
 have j:∀l∈c.body,(zL t ns (zw c) (yB (o.getD [])) l).pred<(t.map (·.jh)).length/\qT (zL t ns (zw c) (yB (o.getD [])) l) ((t.map (·.jh)).getD (zL t ns (zw c) (yB (o.getD [])) l).pred 0) (zM ns.length):=by
  intro l b;obtain⟨e,_,_,B,A,_⟩:=h.lit v (l:=l) (by simp[zk,b]);refine⟨by simpa [zL] using B,?_⟩;show qT _ ((t.map (·.jh)).getD (zO t l.pred) 0) _;rw[A];exact oV t ns _ _ l u.five (E l b)
 obtain⟨e,_,_,B,A,_⟩:=h.lit v (l:=c.head) (by simp[zk]);refine⟨⟨N,fun l b=>?_,fun l b p m=>?_,fun l b p m=>?_,fun p m=>a f m,fun p z=>?_⟩,by simpa [vn,zL] using B,?_,fun l b=>?_,fun l b=>?_⟩
 ·obtain⟨x,g,rfl⟩:=z7.1 b;have:=E x (ub.1 g).1;simp[zL,uh];omega
 ·obtain⟨x,g,rfl⟩:=z7.1 b;exact a (d x (ub.1 g).1) m
 ·obtain⟨x,g,rfl⟩:=z7.1 b;exact a (d x (ub.1 g).1) m
 ·obtain⟨i,D,M⟩:=u.onto p z;have n:=zs D;obtain⟨K,l,H,I,J⟩:=dG.1 n;refine⟨_,z7.2 ⟨l,ub.2 ⟨H,by simp[I]⟩,rfl⟩,CQ.2 ⟨_,J,K,?_⟩⟩;unfold uF;rw[By (AH c) D];simp only;rw[za (by omega)];exact M
 ·show qT _ ((t.map (·.jh)).getD (zO t c.head.pred) 0) _;rw[A];exact oV t ns _ _ c.head u.five Q
 ·obtain⟨x,g,rfl⟩:=z7.1 b;exact j x (ub.1 g).1
 ·obtain⟨x,g,rfl⟩:=z7.1 b;exact j x (ub.1 g).1
theorem ib(h:QN cs t0 t)(ns:κ)(os:Option (List (Option (List Int))))(X:∀i (d:i<cs.length),ka (yB ((xW os i).getD [])) (zw cs[i]).length):nI (vd t ns os cs):=by
 have w:∀a∈t.map (·.jh),a<=3:=by
  intro a T;obtain⟨e,he,rfl⟩:=z7.1 T;have E:R6 t=R6 t0:=by have:=pO (t0.length+1) t0 cs;rw[h.jl] at this;exact this
  have n:(e.name,e.jh)∈R6 t0:=by rw[←E];exact z7.2 ⟨e,he,rfl⟩
  obtain⟨B,N,J⟩:=z7.1 n;simp only[ya] at J;obtain⟨l,M,l2⟩:=(h.tab.names B.name).1 (z7.2 ⟨B,N,rfl⟩);have:=h.tab.jh B N l M l2;obtain⟨c,G,u⟩:=uS.1 M;obtain⟨P,_,I,_⟩:=mj (h.many c G);rw[←J.2,←this];rcases zx.1 u with rfl|u
  ·exact P
  ·exact I l u
 have C:0<zM ns.length:=by unfold zM;split<;>omega
 have b:∀r∈uE t ns os cs,∃i,∃d:i<cs.length,0<cs[i].body.length/\r=vn t ns cs[i] (xW os i):=by
  intro r o;unfold uE at o;obtain⟨⟨c,i⟩,h1,v⟩:=mQ.1 o;have O:=rZ.1 h1;simp only at v O;obtain⟨d,rfl⟩:=jX.1 O;split at v
  ·rename_i Q;simp only[zt] at v;exact⟨i,d,Q,v.symm⟩
  ·cases v
 refine⟨w,fun f S=>?_,fun r o=>?_,fun r o Z F D l u=>?_⟩
 ·have q:f∈vI t ns cs:=S;unfold vI at q;obtain⟨c,G,rfl⟩:=z7.1 q;have y:=(ub.1 G).1;obtain⟨e,_,_,I,q4,_⟩:=h.lit y (l:=c.head) (by simp[zk]);have s:qT (zL t ns [] [0,0,0,0,0] c.head) c.head.args.length (zM ns.length):=oV t ns [] _ c.head (fun k=>by
   by_cases W:k<5
   ·have:k=0∨k=1∨k=2∨k=3∨k=4:=by omega
    rcases this with rfl|rfl|rfl|rfl|rfl<;>decide
   ·simp[List.getD,List.getElem?_eq_none (show([0,0,0,0,0]:List Nat).length<=k by simp;omega)]) (mj (h.many c y)).1
  refine⟨by simpa [vL,vd] using I,?_,?_⟩
  ·show QP ((t.map (·.jh)).getD (zO t c.head.pred) 0) _;rw[q4];exact sw s _
  ·refine B1 s C fun p _=>?_;by_cases W:p<5
   ·have:p=0∨p=1∨p=2∨p=3∨p=4:=by omega
    rcases this with rfl|rfl|rfl|rfl|rfl<;>exact C
   ·rw[show([0,0,0,0,0]:List Nat).getD p 0=0 by simp[List.getD,List.getElem?_eq_none (show([0,0,0,0,0]:List Nat).length<=p by simp;omega)]];exact C
 ·obtain⟨i,d,_,rfl⟩:=b r o;exact Cx h (zs d) ns _ (X i d)
 ·obtain⟨i,d,_,rfl⟩:=b r o;obtain⟨j,R,_,rfl⟩:=b Z F;obtain⟨x,K,rfl⟩:=z7.1 u;have A:=(ub.1 K).1;have H:x.neg=true:=by simpa using(ub.1 K).2
  have g:=h.sol cs[i] (zs d) x A;unfold up at g;rw[zc H] at g;obtain⟨e1,U,_,_,_,a5⟩:=h.lit (zs d) (l:=x) (by simp[zk,A]);obtain⟨e2,V,_,_,_,Y⟩:=h.lit (zs R) (l:=cs[j].head) (by simp[zk]);intro e;have L:zO t x.pred=zO t cs[j].head.pred:=e;rw[a5,Y] at L;have m:=KL U V L;have z:xr t cs[i].head.pred=xr t cs[j].head.pred:=D;rw[wm,wm,←m] at z;omega
theorem pd{k:Nat}(f:k<=5):ka (yB []) k:=by
 have e:yB []=[0,1,2,3,4]:=rfl;have b:∀i,i<5->([0,1,2,3,4]:List Nat).getD i 0=i:=by
  intro i a;have:i=0∨i=1∨i=2∨i=3∨i=4:=by omega
  rcases this with rfl|rfl|rfl|rfl|rfl<;>rfl
 rw[e];refine⟨fun i=>?_,fun i a=>by rw[b i (by omega)];exact a,fun p d=>⟨p,d,b p (by omega)⟩⟩;by_cases a:i<5
 ·rw[b i a];exact a
 ·simp[List.getD,List.getElem?_eq_none (show([0,1,2,3,4]:List Nat).length<=i by simp;omega)]
end
section
open Classical
theorem QN.low{cs:List zd}{a t:List zh}(h:QN cs a t):t.length=a.length/\t.length<=500/\∀n,xr t n<=t.length:=by
 have f:R6 t=R6 a:=by have:=pO (a.length+1) a cs;rw[h.jl] at this;exact this
 have g:t.length=a.length:=by have:=congrArg List.length f;simpa [R6] using this
 have r:=sM _ [] a h.coll;have s:=i8 cs;have u:=h.few;simp only[dK,vB] at r;have b:km a cs:=by
  intro c k l m;have d:=uS.2 ⟨c,k,m⟩;cases i:yo a l.pred with
  |some e=>rfl
  |none=>
   obtain⟨e,q,j⟩:=z7.1 ((h.tab.names l.pred).2 ⟨l,d,rfl⟩);exact zC j (nY h.tab.rise i e q)
 have p:∀n,val a n=0:=fun n=>by
  unfold val;split
  ·rename_i e i;have:=wn _ [] (fun e i=>by cases i) a h.coll e (nA i).1;omega
  ·rfl
 have o:=(sQ b p).2 (by rw[h.jl]);rw[h.jl] at o;refine⟨g,by omega,fun n=>?_⟩;rw[wm];by_cases j:n∈QA a
 ·have:=i6 o (ps:=QA a) (fun c k l m=>(h.tab.names l.pred).2 ⟨l,uS.2 ⟨c,k,m⟩,rfl⟩) j;simp[QA] at this;show val t n<=_;omega
 ·have:val t n=0:=io (by rw[Ec f];exact j);omega
theorem M6(cs:List zd):lg cs<=RZ cs:=by
 induction cs with
 |nil=>simp[lg,RZ]
 |cons c cs d=>
  have e:=re c.body;have f:gi c.body=yS c.body:=by
   have:∀b:List zj,gi b=yS b:=by
    intro b;induction b with
    |nil=>rfl
    |cons a b d=>simp[gi,yS,kt] at d ⊢;omega
   exact this _
  simp[lg,RZ,Sr,kF,kt] at d ⊢;omega
end
section
variable {ns:κ}
theorem tL(h:yC ns){i j:Nat}(a:i<j)(b:j<ns.length):Ra (ns.getD i ByteArray.empty) (ns.getD j ByteArray.empty)=true:=by
 have c:i<ns.length:=by omega
 rw[QD _ c,QD _ b];exact sK.1 h i j c b a
theorem Je(h:yC ns)(x:ByteArray):∀(n l a:Nat),l<=a->a<=ns.length->a-l<n->(∀i,i<l->Ra (ns.getD i ByteArray.empty) x=true)->(∀i,a<=i->i<ns.length->Ra (ns.getD i ByteArray.empty) x=false)->Ro ns x n l a<=ns.length/\(∀i,i<Ro ns x n l a->Ra (ns.getD i ByteArray.empty) x=true)/\∀i,Ro ns x n l a<=i->i<ns.length->Ra (ns.getD i ByteArray.empty) x=false:=by
 intro n;induction n with
 |zero=>intro l a _ _ q;omega
 |succ n p=>
  intro l a v s u k j;unfold Ro;by_cases e:l<a
  ·rw[zc e];have t:l+(a-l) / 2<a:=by omega
   have f:l<=l+(a-l) / 2:=by omega
   generalize l+(a-l) / 2=m at *;by_cases d:Ra (ns.getD m ByteArray.empty) x=true
   ·rw[zc d];refine p (m+1) a (by omega) s (by omega) (fun i o=>?_) j;by_cases b:i=m
    ·rw[b];exact d
    ·exact lt_trans (tL h (show i<m by omega) (by omega)) d
   ·rw[za d];have c:Ra (ns.getD m ByteArray.empty) x=false:=by simpa using d
    refine p l m f (by omega) (by omega) k (fun i o g=>?_);by_cases b:i=m
    ·rw[b];exact c
    ·cases r:Ra (ns.getD i ByteArray.empty) x with
     |false=>rfl
     |true=>
      have:=lt_trans (tL h (show m<i by omega) g) r;rw[this] at c;cases c
  ·rw[za e];exact⟨by omega,k,fun i o g=>j i (by omega) g⟩
theorem BL(h:yC ns)(x:ByteArray):uN ns x<=ns.length/\(∀i,i<uN ns x->Ra (ns.getD i ByteArray.empty) x=true)/\∀i,uN ns x<=i->i<ns.length->Ra (ns.getD i ByteArray.empty) x=false:=
 Je h x _ 0 ns.length (zv _) (zg _) (by omega) (fun i a=>by omega) (fun i a b=>by omega)
theorem rJ(h:yC ns){v:Nat}(a:v<ns.length):ur ns (ns.getD v ByteArray.empty)=some v:=by
 obtain⟨e,c,b⟩:=BL h (ns.getD v ByteArray.empty);have d:uN ns (ns.getD v ByteArray.empty)=v:=by
  rcases pD (uN ns (ns.getD v ByteArray.empty)) v with q|q|q
  ·have:=b _ (zg _) (by omega);rw[tL h q a] at this;cases this
  ·exact q
  ·have:=c v q;rw[QM] at this;cases this
 unfold ur;rw[d,zc ⟨a,rfl⟩]
theorem FO{x:ByteArray}{v:Nat}(h:ur ns x=some v):v<ns.length/\ns.getD v ByteArray.empty=x:=by
 unfold ur at h;split at h
 ·rename_i a;simp only[zt] at h;subst h;exact a
 ·cases h
theorem Pj(h:yC ns){x:ByteArray}(b:x∈ns):∃v,ur ns x=some v/\v<ns.length:=by
 obtain⟨v,a,rfl⟩:=qk b;have:=rJ h a;rw[QD _ a] at this;exact⟨v,this,a⟩
theorem KZ(h:yC ns)(x:ByteArray):yC (mh ns x)/\∀y,y∈mh ns x↔y=x∨y∈ns:=by
 unfold mh;obtain⟨A,w,t⟩:=BL h x;by_cases f:uN ns x<ns.length/\ns.getD (uN ns x) ByteArray.empty=x
 ·rw[zc f];refine⟨h,fun y=>⟨zb,fun q=>q.elim (fun e=>?_) id⟩⟩;rw[e,←f.2,QD _ f.1];exact zs f.1
 ·rw[za f];generalize uN ns x=p at *;refine⟨?_,fun y=>?_⟩
  ·unfold yC;have k:=jt p ns;have c:=h;unfold yC at c;rw[←k,py] at c;rw[py,nZ];have l:∀a∈ns.take p,Ra a x=true:=fun a j=>by
    obtain⟨i,o,rfl⟩:=qk j;have m:i<p:=by simp at o;omega
    have d:i<ns.length:=by omega
    have:=w i m;rw[QD _ d] at this;simpa using this
   have n:∀b∈ns.drop p,Ra x b=true:=fun b g=>by
    obtain⟨i,o,rfl⟩:=qk g;have d:p+i<ns.length:=by simp at o;omega
    have u:=t (p+i) (by omega) d;rw[QD _ d] at u;rw[List.getElem_drop];cases v:Ra x ns[p+i] with
    |true=>rfl
    |false=>
     exfalso;have e:=t9 u v;by_cases s:i=0
     ·subst s;exact f ⟨by omega,by rw[QD _ (by omega)];simpa using e⟩
     ·have r:=tL h (show p<p+i by omega) d;rw[QD _ d,e] at r;have z:=t p (zg _) (by omega);rw[z] at r;cases r
   refine⟨c.1,⟨n,c.2.1⟩,fun a j b g=>?_⟩;rcases zx.1 g with rfl|g
   ·exact l a j
   ·exact c.2.2 a j b g
  ·have:y∈ns↔y∈ns.take p∨y∈ns.drop p:=by
    rw[←zI,jt]
   rw[this];simp only[zI,zx];constructor
   ·rintro(q|q|q)
    ·exact zb (zf q)
    ·exact zf q
    ·exact zb (zb q)
   ·rintro(q|q|q)
    ·exact zb (zf q)
    ·exact zf q
    ·exact zb (zb q)
theorem Oh(h:yC ns)(x:ByteArray):yC (qH ns x)/\∀y,y∈qH ns x↔(y=x/\zP x=false)∨y∈ns:=by
 unfold qH;cases a:zP x with
 |true=>simp[h]
 |false=>simpa using KZ h x
theorem ev:∀(xs:κ) {ns:κ},yC ns->yC (xs.foldl qH ns)/\∀y,y∈xs.foldl qH ns↔(y∈xs/\zP y=false)∨y∈ns
 |[],ns,h=>⟨h,fun y=>by simp⟩
 |x::xs,ns,h=>by
  obtain⟨d,c⟩:=Oh h x;obtain⟨f,e⟩:=ev xs d;refine⟨f,fun y=>?_⟩;rw[ut,e,c];simp only[zx];constructor
  ·rintro(⟨b,a⟩|⟨rfl,a⟩|q)
   ·exact zf ⟨zb b,a⟩
   ·exact zf ⟨zf rfl,a⟩
   ·exact zb q
  ·rintro(⟨rfl|b,a⟩|q)
   ·exact zb (zf ⟨rfl,a⟩)
   ·exact zf ⟨b,a⟩
   ·exact zb (zb q)
theorem AM:∀(a:List zj) {ns:κ},yC ns->yC (a.foldl uG ns)/\∀y,y∈a.foldl uG ns↔(∃l∈a,y∈l.args/\zP y=false)∨y∈ns
 |[],ns,h=>⟨h,fun y=>by simp⟩
 |l::a,ns,h=>by
  obtain⟨e,d⟩:=ev l.args h;obtain⟨f,c⟩:=AM a (ns:=uG ns l) e;refine⟨f,fun y=>?_⟩;have b:∀y,y∈uG ns l↔(y∈l.args/\zP y=false)∨y∈ns:=d;rw[ut,c,b];simp only[zx,exists_eq_or_imp];constructor
  ·rintro(q|q|q)
   ·exact zf (zb q)
   ·exact zf (zf q)
   ·exact zb q
  ·rintro((q|q)|q)
   ·exact zb (zf q)
   ·exact zf q
   ·exact zb (zb q)
theorem Fp:∀(cs:List zd) {ns:κ},yC ns->yC (cs.foldl qs ns)/\∀y,y∈cs.foldl qs ns↔(∃c∈cs,∃l∈zk c,y∈l.args/\zP y=false)∨y∈ns
 |[],ns,h=>⟨h,fun y=>by simp⟩
 |c::cs,ns,h=>by
  obtain⟨i,f⟩:=ev c.head.args h;obtain⟨e,g⟩:=AM c.body (ns:=uG ns c.head) i;obtain⟨j,d⟩:=Fp cs (ns:=qs ns c) e;refine⟨j,fun y=>?_⟩;have b:∀y,y∈uG ns c.head↔(y∈c.head.args/\zP y=false)∨y∈ns:=f;have a:∀y,y∈qs ns c↔(∃l∈c.body,y∈l.args/\zP y=false)∨y∈uG ns c.head:=g;rw[ut,d,a,b];simp only[zx,exists_eq_or_imp,zk];constructor
  ·rintro(q|q|q|q)
   ·exact zf (zb q)
   ·exact zf (zf (zb q))
   ·exact zf (zf (zf q))
   ·exact zb q
  ·rintro(((q|q)|q)|q)
   ·exact zb (zb (zf q))
   ·exact zb (zf q)
   ·exact zf q
   ·exact zb (zb (zb q))
theorem hZ(cs:List zd):yC (zq cs)/\∀y,y∈zq cs↔∃c∈cs,∃l∈zk c,y∈l.args/\zP y=false:=by
 obtain⟨a,b⟩:=Fp cs (ns:=[]) List.Pairwise.nil;exact⟨a,fun y=>by rw[show zq cs=cs.foldl qs [] from rfl,b];simp⟩
end
end Go.Proofs.YteampbddflhngaaGreat
