import Derived.Test.YteampbddflhngaaGreatV33
namespace Go.Proofs.YteampbddflhngaaGreat
set_option linter.all false
set_option maxRecDepth 100000
set_option maxHeartbeats 4000000
open Go.Proofs.Tryz Go.RowKit
section
variable {lo:Nat}{w:World}{rb wd mr mx:Nat}{R:zx}
def eT(p:Nat):TypeId->zn->Prop:=fun t ρ=>t=165/\ρ=(0,p,1)
def fM(p:Nat):TypeId->zn->Prop:=fun t ρ=>(¬PU t/\ρ=(0,p,0))∨t=214∨t=161∨eT p t ρ
theorem zU.setTrie{f:World}{own c:Nat->zn}{Q:ua}{p:Nat}{T:zi}(h:zU lo w own rb R wd mr mx Q)(k:p<R.rows.length)(i:p<Q.tbs.length)(j:yN lo f c (0,p,0) Q.tbs[p] T)(m:Pe lo (onT (·=(0,p,0))) w own f c):zU lo f c rb {R with rows:=R.rows.set p T} wd mr mx Q:=by
 have d:(R.rows.set p T).length=R.rows.length:=by simp
 refine⟨h.low,h.box.mod m (qG (by decide) _),by rw[d];exact vd h.rows m (qG (by decide)),by rw[d];exact h.tlen,fun q a b=>?_,vd h.qo m (qG (by decide)),h.flen,fun q a b=>⟨(h.jl q a b).1.mod m (qG (by decide)),fun x g=>?_⟩,by rw[d];exact h.few,h.small⟩
 ·by_cases e:q=p
  ·subst e;simp only[mV];exact j
  ·simp only[mU (Ne.symm e)];exact(h.tries q (by simpa using a) b).onT m (by simp[e])
 ·rw[m.old x (yO (h.jl q a b).1.1 g)];exact(h.jl q a b).2 x g
theorem zU.rebox{j:World}{own:Nat->zn}{R':zx}{Q:ua}(h:zU lo w own rb R wd mr mx Q)(i:zd [rb] w j)(n:OZ j rb #[Q.rv,.int .i64 R'.count,.int .i64 R'.qx,.int .i64 R'.jh,.int .i64 wd,.int .i64 mr,.int .i64 mx,Q.fv] 214)(l:R'.rows=R.rows)(m:R'.qo=R.qo)(o:R'.count<=1048577/\R'.qx<=1048576):zU lo j own rb R' wd mr mx Q:=by
 have f:=Px.box h.box;obtain⟨k,g,c,e,d⟩:=R';simp only at l m;subst l;subst m;exact⟨h.low,n,yE h.rows i f (by decide),h.tlen,fun q a b=>(h.tries q a b).saveT i f (by decide),yE h.qo i f (by decide),h.flen,fun q a b=>⟨⟨yE (h.jl q a b).1.1 i f (by decide),(h.jl q a b).1.2⟩,(h.jl q a b).2⟩,⟨h.few.1,h.few.2.1,o⟩,h.small⟩
theorem zU.pushFresh{o:World}{own:Nat->zn}{r v:Nat}{Q:ua}{p:Nat}{v':Value}{rs:List zk}(h:zU lo w own rb R wd mr mx Q)(O:p<R.qo.length)(E:p<Q.fvs.length)(u:Q.fv=.slice (some ⟨r,0,none⟩) R.qo.length v)(I:zd Q.fvs[p].ownBlock.toList w o)(G:Pq lo o v' rs)(D:v'.ownBlock=Q.fvs[p].ownBlock∨∃g,v'.ownBlock=some g/\w.heap.size<=g):
  zU lo (o.setCell ⟨r,p,none⟩ v') (ext own w.heap.size (0,p,1)) rb {R with qo:=R.qo.set p rs} wd mr mx ⟨Q.rv,Q.tbs,Q.fv,Q.fvs.set p v'⟩/\Pe lo (fM p) w own (o.setCell ⟨r,p,none⟩ v') (ext own w.heap.size (0,p,1)):=by
 have f:=h.jl p O E;have s:Pe lo (eT p) w own o (ext own w.heap.size (0,p,1)):=⟨fun b F=>g5 _ _ _ _ F,_,I,fun b F=>by
  have n:=yv F;obtain⟨c,J⟩:=qr f.1.1 n;exact⟨yW f.1.1 n,yO f.1.1 n,c,_,J,rfl,f.2 b n⟩⟩
 have C:∀{t:TypeId},t≠165->∀ρ,¬eT p t ρ:=fun H ρ q=>H q.1;have z:=vd h.qo s (C (by decide));have d:=z;rw[u] at d;have A:=uK d p (by omega) v';obtain⟨S,y⟩:=qr d (b:=r) rfl;have l:zd [r] o (o.setCell ⟨r,p,none⟩ v'):=zd.set _ _ _ _;have k:=Px.box y;have m:(R.qo.set p rs).length=R.qo.length:=by simp
 have B:=yW d rfl;refine⟨⟨h.low,(h.box.mod s (C (by decide) _)).saveT l k (by decide),yE (vd h.rows s (C (by decide))) l k (by decide),h.tlen,fun q a b=>((h.tries q a b).mod s (fun t K q=>K (by rw[q.1];decide))).saveT l k (by decide),by rw[m,u];exact A,by rw[m];simpa using h.flen,fun q a b=>?_,⟨h.few.1,by rw[m];exact h.few.2.1,h.few.2.2⟩,h.small⟩,?_⟩
 ·by_cases e:q=p
  ·subst e;simp only[mV];refine⟨⟨yE G.1 l k (by decide),G.2⟩,fun x i=>?_⟩;rcases D with e|⟨g,e,P⟩
   ·rw[e] at i;rw[g5 _ _ _ _ (yO f.1.1 i)];exact f.2 x i
   ·rw[e] at i;simp only[zs] at i;subst i;simp[ext,Nat.not_lt.2 P]
  ·simp only[mU (Ne.symm e)];have L:q<R.qo.length:=by simpa using a
   have M:q<Q.fvs.length:=by simpa using b
   have j:=h.jl q L M;refine⟨⟨yE (j.1.modR s fun x i N=>e (by have:=j.2 x i;rw[N.2] at this;simp at this;exact this.symm)).1 l k (by decide),j.1.2⟩,fun x i=>?_⟩;rw[g5 _ _ _ _ (yO j.1.1 i)];exact j.2 x i
 ·exact(s.more fun t ρ q=>ze (ze (ze q))).trans (Pe.set _ y B (ze (ze (zf rfl))) _ _)
def L5(lo:Nat)(w:World)(own:Nat->zn)(rb p:Nat)(R':zx)(b:Bool)(wd mr mx:Nat)(Q:ua)(e:Ending)(d:World):Prop:=e=.returned (.bool b)/\∃a c,zU lo d a rb R' wd mr mx ⟨Q.rv,Q.tbs,Q.fv,c⟩/\Pe lo (fM p) w own d a
theorem iH{R':zx}{p:Nat}{row:zk}{b:Bool}(h:kN mr R p row=some (R',b)):p<R.rows.length/\p<R.qo.length/\okT (R.rows.getD p zi.zero)=true/\R.count<=1048576/\(R.qo.getD p []).length<=1048576/\((addP (R.rows.getD p zi.zero) row R.qx).2=false/\R'={R with rows:=R.rows.set p (addP (R.rows.getD p zi.zero) row R.qx).1}/\b=true∨(addP (R.rows.getD p zi.zero) row R.qx).2=true/\R'={R with rows:=R.rows.set p (addP (R.rows.getD p zi.zero) row R.qx).1,qo:=R.qo.set p (R.qo.getD p []++[row]),count:=R.count+1}/\b=decide (R.count+1<=mr)):=by
 unfold kN at h;split at h
 ·rename_i g;obtain⟨f,e,i,d,c⟩:=g;refine⟨f,e,i,d,c,?_⟩;rcases a:addP (R.rows.getD p zi.zero) row R.qx with⟨T,_|_⟩
  ·rw[a] at h;simp only[zs,yo] at h;exact zf ⟨rfl,h.1.symm,h.2.symm⟩
  ·rw[a] at h;simp only[zs,yo] at h;exact ze ⟨rfl,h.1.symm,h.2.symm⟩
 ·cases h
theorem oA(w:World)(own:Nat->zn)(rb:Nat)(R R':zx)(wd mr mx:Nat)(Q:ua)(p x y z:Nat)(b:Bool)(h:zU lo w own rb R wd mr mx Q)(bK:lo<=w.heap.size)(hr:kN mr R p [x,y,z]=some (R',b)):
  Calls prog 121 #[.pointer (some ⟨rb,0,none⟩),.int .i64 p,.agg #[.int .i64 x,.int .i64 y,.int .i64 z]] w fun e l=>L5 lo w own rb p R' b wd mr mx Q e l:=by
 obtain⟨i0,hi,bx,bv,b6⟩:=info_parts OH;obtain⟨O,o,a7,bD,bu,c⟩:=iH hr;have al:p<Q.tbs.length:=by rw[h.tlen];exact O
 have D:p<Q.fvs.length:=by rw[h.flen];exact o
 obtain⟨hl,hf,h0,h1,h2,h3,h4,h5,h6,h7⟩:=h.at;obtain⟨g,aI,a2,hg,hc⟩:=h.trie p O al;obtain⟨gf,au,a0,bR,aY⟩:=h.frow p o D;rw[a2] at h0;rw[a0] at h7;have HR:=OY h;have a9:=OY a2;have aa:=OY a0;have aH:R.rows.getD p zi.zero=R.rows[p]:=by simp[O]
 have aG:R.qo.getD p []=R.qo[p]:=by simp[o]
 rw[aH] at a7 c;rw[aG] at c bu;have HT:=OY (h.tries p O al);have ax:=OY fun W hW=>rX W own (0,p,0) Q.tbs[p] R.rows[p] x y z R.qx (HT.out.below hW) a7;have bB:(p:Int)<(R.rows.length:Int):=by omega
 have bC:(p:Int)<(R.qo.length:Int):=by omega
 have bN:=h.small.2.1;have ba:=h.few.1;have bm:=h.few.2.1;have aT:=OY fun W l aw (T:zi) (hW:Below w.heap.size w W) (hT:yN lo l aw (0,p,0) Q.tbs[p] T) (m:Pe lo (onT (·=(0,p,0))) W own l aw)=>(HR.out.below hW).setTrie O al hT m;have F:Hid ((addP R.rows[p] [x,y,z] R.qx).2=false/\R'={R with rows:=R.rows.set p (addP R.rows[p] [x,y,z] R.qx).1}/\b=true∨(addP R.rows[p] [x,y,z] R.qx).2=true/\R'={R with rows:=R.rows.set p (addP R.rows[p] [x,y,z] R.qx).1,qo:=R.qo.set p (R.qo[p]++[[x,y,z]]),count:=R.count+1}/\b=decide (R.count+1<=mr)):=c;have bA:=OY fun b (hb:Q.fvs[p].ownBlock=some b)=>yO (h.jl p o D).1.1 hb;clear h a2 a0 a7 c aH aG h1 h3 h4 h5 h6;have bI:Hid (Q.tbs[p]=Q.tbs[p]):=rfl;generalize b7:(addP R.rows[p] [x,y,z] R.qx).1=T' at *;clear b7;generalize bo:(addP R.rows[p] [x,y,z] R.qx).2=a1 at *;clear bo;have aQ:=OZ.new w #[.int .i64 x,.int .i64 y,.int .i64 z] 165;go_enter func121,ntmps121;go_wp2;go_region_held3 (fun l=>l.cell? ⟨rb,0,none⟩=some (.slice (some ⟨g,0,none⟩) R.rows.length aI)/\l.cell? ⟨g,p,none⟩=some (.pointer (some ⟨Q.tbs[p],0,none⟩))/\l.cell? ⟨rb,2,none⟩=some (.int .i64 R.qx)/\l.cell? ⟨w.heap.size,0,none⟩=some (.int .i64 x)/\l.cell? ⟨w.heap.size,1,none⟩=some (.int .i64 y)/\l.cell? ⟨w.heap.size,2,none⟩=some (.int .i64 z)) (first|(exact⟨a6,aF,aN,A,u,n⟩)|go_keep|(go_simp;done)) (first|(go_at_call 163;refine(ax.out _ (by exact(by go_grown))).mono ?_;rintro e E ⟨rfl,aB,ak⟩;have a4:Below w.heap.size w _:=(show Below w.heap.size w (w.alloc (.cells #[.int .i64 x,.int .i64 y,.int .i64 z] 165)).drew from(by go_grown));have ae:=aT.out _ _ _ _ a4 aB ak;obtain⟨aW,b5,a6,b0,aN,bg,b1,bi,bt,aj⟩:=ae.at;rw[a9.out] at a6;rw[aa.out] at aj;have j:=(aQ.drew).mod ak (qG (by decide) _);have A:=j.rules.1 0;have u:=j.rules.1 1;have n:=j.rules.1 2;simp only[hZ,gY,fY] at A u n;obtain⟨g',bH,H,bM,aF⟩:=ae.trie p (by simpa using O) al;rw[a9.out] at H;simp only[Value.slice.injEq,zs,Addr.mk.injEq,and_true] at H;have az:=H.1;clear H;subst az))
 have ar:Pe lo (fM p) w own E _:=(Pe.of own a4).trans (ak.more fun _ _ q=>zf q);have s:Hid (zU lo E (ext own (w.alloc (.cells #[.int .i64 x,.int .i64 y,.int .i64 z] 165)).drew.heap.size (0,p,0)) rb {R with rows:=R.rows.set p T'} wd mr mx Q):=ae;have Y:Hid (Pe lo (fM p) w own E (ext own (w.alloc (.cells #[.int .i64 x,.int .i64 y,.int .i64 z] 165)).drew.heap.size (0,p,0))):=ar;clear ae ar aB ak HT ax aT hc h0 h2 h7 aY hl hf aQ a4 a9;generalize ext own (w.alloc (.cells #[.int .i64 x,.int .i64 y,.int .i64 z] 165)).drew.heap.size (0,p,0)=X at *;cases a1 with
 |false=>
  have c:=F.out;simp only[kL,false_and,or_false,true_and] at c;obtain⟨rfl,rfl⟩:=c;go_wp2;go_ret;exact⟨rfl,X,Q.fvs,s.out,Y.out⟩
 |true=>
  have c:=F.out;simp only[Bool.true_eq_false,false_and,false_or,true_and] at c;have aK:=OY c.1;have bb:=OY c.2;clear c F;obtain⟨bS,b8,L,bF,I⟩:=s.out.frow p o D;rw[aa.out] at L;simp only[Value.slice.injEq,zs,Addr.mk.injEq,and_true] at L;have az:=L.1;clear L;subst az;have C:=(s.out.jl p o D).1.1;obtain⟨Z,B,ai⟩:=zq C;rw[ai] at I;have af:Hid (Q.fvs[p]=.slice Z R.qo[p].length B):=ai;rw[ai] at C;clear ai;have bh:Hid (∀r∈R.qo[p],r.length=3):=(s.out.jl p o D).1.2;have bJ:=Y.out.size;have bG:=j.lt;have aq:=OY j;generalize am:R.qo[p].length=fl at *;have aD:=OY am;clear am j bg b1 bt aF;go_wp2;refine wp_region_noPanic ?_;refine eM (S:=fun l=>l.cell? ⟨rb,7,none⟩=some (.slice (some ⟨gf,0,none⟩) R.qo.length au)/\l.cell? ⟨gf,p,none⟩=some (.slice Z fl B)/\l.cell? ⟨w.heap.size,0,none⟩=some (.int .i64 x)/\l.cell? ⟨w.heap.size,1,none⟩=some (.int .i64 y)/\l.cell? ⟨w.heap.size,2,none⟩=some (.int .i64 z)) (d:=16) (by kernel_rfl) ⟨aj,I,A,u,n⟩ (fun a=>?_);refine xX (i:=0) (v:=?v0) rfl (by kernel_rfl) (by kernel_rfl) (by kernel_rfl) (by kernel_rfl) (fun _ _ _ h=>h) (zf ⟨by rfl,?hy0⟩) a ?rest0
  case hy0=>
   intro N f;go_simp
   (try with_reducible rfl)
  refine xX (i:=1) (v:=?v1) rfl (by kernel_rfl) (by kernel_rfl) (by kernel_rfl) (by kernel_rfl) (fun _ _ _ h=>h) (zf ⟨by rfl,?hy1⟩) a ?rest1
  case hy1=>
   intro N f;go_simp
   (try with_reducible rfl)
  refine xX (i:=2) (v:=?v2) rfl (by kernel_rfl) (by kernel_rfl) (by kernel_rfl) (by kernel_rfl) (fun _ _ _ h=>h) (zf ⟨by rfl,?hy2⟩) a ?rest2
  case hy2=>
   intro N f;go_simp
   (try with_reducible rfl)
  refine xX (i:=3) (v:=?v3) rfl (by kernel_rfl) (by kernel_rfl) (by kernel_rfl) (by kernel_rfl) (fun _ _ _ h=>h) (zf ⟨by rfl,?hy3⟩) a ?rest3
  case hy3=>
   intro N f;go_simp
   (try with_reducible rfl)
  refine xX (i:=4) (v:=?v4) rfl (by kernel_rfl) (by kernel_rfl) (by kernel_rfl) (by kernel_rfl) (fun _ _ _ h=>h) (zf ⟨by rfl,?hy4⟩) a ?rest4
  case hy4=>
   intro N f;go_simp
   (try with_reducible rfl)
  refine xX (i:=5) (v:=?v5) rfl (by kernel_rfl) (by kernel_rfl) (by kernel_rfl) (by kernel_rfl) (fun _ _ _ h=>h) (zf ⟨by rfl,?hy5⟩) a ?rest5
  case hy5=>
   intro N f;go_simp
   (try with_reducible rfl)
  refine xX (i:=6) (v:=?v6) rfl (by kernel_rfl) (by kernel_rfl) (by kernel_rfl) (by kernel_rfl) (fun _ _ _ h=>h) (zf ⟨by rfl,?hy6⟩) a ?rest6
  case hy6=>
   intro N f;go_simp
   (try with_reducible rfl)
  refine xX (i:=7) (v:=?v7) rfl (by kernel_rfl) (by kernel_rfl) (by kernel_rfl) (by kernel_rfl) (fun _ _ _ h=>h) (zf ⟨by rfl,?hy7⟩) a ?rest7
  case hy7=>
   intro N f;go_simp
   (try with_reducible rfl)
  refine xX (i:=8) (v:=?v8) rfl (by kernel_rfl) (by kernel_rfl) (by kernel_rfl) (by kernel_rfl) (fun _ _ _ h=>h) (zf ⟨by rfl,?hy8⟩) a ?rest8
  case hy8=>
   intro N f;go_simp
   (try with_reducible rfl)
  refine xX (i:=9) (v:=?v9) rfl (by kernel_rfl) (by kernel_rfl) (by kernel_rfl) (by kernel_rfl) (fun _ _ _ h=>h) (zf ⟨by rfl,?hy9⟩) a ?rest9
  case hy9=>
   intro N f;go_simp
   (try with_reducible rfl)
  refine xX (i:=10) (v:=?v10) rfl (by kernel_rfl) (by kernel_rfl) (by kernel_rfl) (by kernel_rfl) (fun _ _ _ h=>h) (zf ⟨by rfl,?hy10⟩) a ?rest10
  case hy10=>
   intro N f;go_simp
   (try with_reducible rfl)
  refine xX (i:=11) (v:=?v11) rfl (by kernel_rfl) (by kernel_rfl) (by kernel_rfl) (by kernel_rfl) (fun _ _ _ h=>h) (zf ⟨by rfl,?hy11⟩) a ?rest11
  case hy11=>
   intro N f;go_simp
   (try with_reducible rfl)
  refine xX (i:=12) (v:=?v12) rfl (by kernel_rfl) (by kernel_rfl) (by kernel_rfl) (by kernel_rfl) (fun _ _ _ h=>h) (zf ⟨by rfl,?hy12⟩) a ?rest12
  case hy12=>
   intro N f;go_simp
   (try with_reducible rfl)
  refine gU (i:=13) (by kernel_rfl) rfl (fun K hK=>?_);go_simp
  have U:Below E.heap.size E (E.alloc (.cells #[.int .i64 x,.int .i64 y,.int .i64 z] 165)).drew:=(by go_grown);refine hK.out _ _ (fun _=>⟨(Below.cell (p:=⟨rb,7,none⟩) U (show rb<E.heap.size by omega)).trans aj,(Below.cell (p:=⟨gf,p,none⟩) U (show gf<E.heap.size by omega)).trans I,(Below.cell (p:=⟨w.heap.size,0,none⟩) U (show w.heap.size<E.heap.size by omega)).trans A,(Below.cell (p:=⟨w.heap.size,1,none⟩) U (show w.heap.size<E.heap.size by omega)).trans u,(Below.cell (p:=⟨w.heap.size,2,none⟩) U (show w.heap.size<E.heap.size by omega)).trans n⟩) ?_;clear hK K a;refine gU (i:=14) (by kernel_rfl) rfl (fun K hK=>?_);refine dX E _ [.int .i64 x,.int .i64 y,.int .i64 z] 165 rfl (.tmp 57) (.tmp 59) 161 rfl lo 165 i0 _ 3 24 underlying161 hi bx bv b6 rfl (by decide) (.slice Z fl B) fl (qX R.qo[p]) (by simp[Act.eval]) C (by exact U) E.heap.size 1 (by simp[Act.eval]) (by exact OZ.drew (OZ.new _ _ _)) rfl (by simp[Value.oneCell']) (by omega) (by omega) (by omega) ?_;intro v' w3 a8 ab av b4 bE;obtain⟨ag,G,rfl⟩:=zq a8;have aC:=Px.own C;have an:=s.out.box.saveT ab aC (by decide);have ah:=an.rules.1 7;simp only[hZ,gY,fY] at ah;rw[aa.out] at ah;have M:=yE s.out.qo ab aC (by decide);rw[aa.out] at M;have ao:w3.cell? ⟨gf,p,none⟩=some (.slice Z fl B):=by
   obtain⟨bL,bw,ap,_,_,aA⟩:=y7 M (show 0<R.qo.length by omega);simp only[Value.slice.injEq,zs,Addr.mk.injEq,and_true] at ap;have e:=ap.1;subst e;have:=aA p Q.fvs[p] (by simp[D]);rw[af.out] at this;exact this
  have aM:=qt M;have J:=aq.out.save ab (fun hm=>by
   have:=bA.out w.heap.size (by rw[af.out];exact yv hm);omega)
  have ac:=J.rules.1 0;have V:=J.rules.1 1;have ad:=J.rules.1 2;simp only[hZ,gY,fY] at ac V ad;have k:w3.cell? ⟨rb,7,none⟩=some (.slice (some ⟨gf,0,none⟩) R.qo.length au)/\w3.cell? ⟨gf,p,none⟩=some (.slice Z fl B)/\w3.cell? ⟨w.heap.size,0,none⟩=some (.int .i64 x)/\w3.cell? ⟨w.heap.size,1,none⟩=some (.int .i64 y)/\w3.cell? ⟨w.heap.size,2,none⟩=some (.int .i64 z):=⟨ah,ao,ac,V,ad⟩;refine hK.out _ _ (fun _=>k) ?_;clear hK K;refine xX (i:=15) (v:=?v15) rfl (by kernel_rfl) (by kernel_rfl) (by kernel_rfl) (by kernel_rfl) (fun _ _ _ h=>h) (zf ⟨by rfl,?hy15⟩) k ?rest15
  case hy15=>
   intro N f;go_simp
   (try with_reducible rfl)
  refine gU (i:=16) (by kernel_rfl) rfl (fun K hK=>?_);go_simp
  refine hK.out _ _ (fun hq=>zC rfl hq) ?_;clear hK K;refine iz (by kernel_rfl) ?_ _;refine NoPanic.normal ?_;have hP:=zU.pushFresh (v':=.slice ag (fl+1) G) (rs:=R.qo[p]++[[x,y,z]]) s.out o D aa.out (by rw[af.out];exact ab) ⟨by rw[yz,aD.out];simpa [qX,PF] using a8,fun r hr=>by rcases zW.1 hr with q|q;exact bh.out r q;simp at q;subst q;rfl⟩ (by rw[af.out];exact av);obtain⟨aP,aE⟩:=hP;have P:Hid (zU lo (w3.setCell ⟨gf,p,none⟩ (.slice ag (fl+1) G)) (ext X E.heap.size (0,p,1)) rb {R with rows:=R.rows.set p T',qo:=R.qo.set p (R.qo[p]++[[x,y,z]])} wd mr mx ⟨Q.rv,Q.tbs,Q.fv,Q.fvs.set p (.slice ag (fl+1) G)⟩):=aP;have be:=OY (Y.out.trans aE);clear aP aE k ah ao aM ac V ad an M J a6 b0 aN bi aj A u n I aW b5 s aq C a8 ab av b4;generalize ext X E.heap.size (0,p,1)=t at *;generalize w3.setCell ⟨gf,p,none⟩ (.slice ag (fl+1) G)=w5 at *;obtain⟨b2,bp,aZ,aR,bf,br,bk,aJ,aV,b9⟩:=P.out.at;simp only at aR aJ;clear aZ bf br bk aV b9;have ay:=P.out.box.set 1 (.int .i64 ((R.count:Int)+1));have aS:zd [rb] w5 (w5.setCell ⟨rb,1,none⟩ (.int .i64 ((R.count:Int)+1))):=zd.set _ _ _ _;have aL:Pe lo (fM p) w5 t (w5.setCell ⟨rb,1,none⟩ (.int .i64 ((R.count:Int)+1))) t:=Pe.set t P.out.box P.out.low (ze (zf rfl)) _ _;have a5:=P.out.rebox (R':={R with rows:=R.rows.set p T',qo:=R.qo.set p (R.qo[p]++[[x,y,z]]),count:=R.count+1}) aS (by simpa using ay) rfl rfl ⟨by show R.count+1<=1048577;omega,P.out.few.2.2.2⟩;rw[←aK.out] at a5;have aU:=OY a5;have bc:=OY (be.out.trans aL);clear a5 aL ay aS;go_upto_region 8 with fail
  generalize w5.setCell ⟨rb,1,none⟩ (.int .i64 ((R.count:Int)+1))=w6 at *;obtain⟨bQ,bP,aX,a3,b3,bq,bn,bO,bz,bs⟩:=aU.out.at;rw[aK.out] at a3;simp only at a3;have aO:((R.count+1:Nat):Int)=(R.count:Int)+1:=by omega
  rw[aO] at a3;clear aX b3 bq bn bz bs aR aJ b2 bp aO;go_quiet (fail)
  go_wp2;go_ret;have bd:decide ((R.count:Int)+1<=(mr:Int))=b:=by rw[bb.out];exact decide_eq_decide.2 (by omega)
  exact⟨by rw[←bd];rfl,t,_,aU.out.below (zI (zo _ _) _),bc.out.trans (Pe.of t (zI (zo _ _) _))⟩
end
section
variable {lo:Nat}{w w':World}{own':Nat->zn}
def Rc:TypeId->zn->Prop:=gd [310,323]
def kd(p:Nat):TypeId->zn->Prop:=orK (fM p) Rc
theorem Ci{l:List TypeId}{t:TypeId}{ρ:zn}(h:t∈l):gd l t ρ:=h
theorem km{l:List TypeId}{t:TypeId}(h:t∉l):∀ρ,¬gd l t ρ:=fun _ q=>h q
theorem P2.mod{ok:TypeId->zn->Prop}{w w':World}{own own':Nat->zn}{d:Nat}{J:z9}{P:xr}(h:P2 lo w d J P)(m:Pe lo ok w own w' own')(j:∀ρ,¬ok 310 ρ)(g:∀ρ,¬ok 323 ρ)(l:∀ρ,¬ok 325 ρ)(f:∀ρ,¬ok 327 ρ)(c:∀ρ,¬ok 284 ρ)(i:∀x∈P.tbs,∀b∈x.2,∀t,¬PU t->¬ok t (own b))(e:∀x∈P.bps,∀b∈x.2.2,∀t,¬PU t->¬ok t (own b)):P2 lo w' d J P:=
 ⟨h.low,h.box.mod m (j _),h.head.mod m c,vd h.ja m g,h.slen,fun k a b=>(h.tries k a b).mod m (i _ (zu b)),h.qi,vd h.bars m l,h.blen,fun k a b=>⟨(h.ji k a b).1.mod m c,(h.ji k a b).2.mod m (e _ (zu b))⟩,h.hlen,fun p a b=>⟨vd (h.je p a b).1 m f,(h.je p a b).2⟩,h.jk,h.few⟩
def mF(own:Nat->zn)(P:xr)(p:Nat):Prop:=(∀x∈P.tbs,∀b∈x.2,own b≠(0,p,0))/\(∀x∈P.bps,∀b∈x.2.2,own b≠(0,p,0))
theorem P2.add{own:Nat->zn}{n p:Nat}{J:z9}{P:xr}(h:P2 lo w n J P)(m:Pe lo (fM p) w own w' own')(j:mF own P p):P2 lo w' n J P/\mF own' P p:=by
 have g:∀{t:TypeId},PU t->t≠214->t≠161->t≠165->∀ρ,¬fM p t ρ:=fun a b c d ρ q=>by
  rcases q with q|q|q|q
  ·exact q.1 a
  ·exact b q
  ·exact c q
  ·exact d q.1
 have o:∀{t:TypeId} {ρ:zn},¬PU t->ρ≠(0,p,0)->¬fM p t ρ:=fun a b q=>by
  rcases q with q|q|q|q
  ·exact b q.2
  ·subst q;exact a (by decide)
  ·subst q;exact a (by decide)
  ·rw[q.1] at a;exact a (by decide)
 refine⟨h.mod m (g (by decide) (by decide) (by decide) (by decide)) (g (by decide) (by decide) (by decide) (by decide)) (g (by decide) (by decide) (by decide) (by decide)) (g (by decide) (by decide) (by decide) (by decide)) (g (by decide) (by decide) (by decide) (by decide)) (fun x e b f t l=>o l (j.1 x e b f)) (fun x e b f t l=>o l (j.2 x e b f)),fun x e b f=>?_,fun x e b f=>?_⟩
 ·obtain⟨k,i,rfl⟩:=vl e;rw[m.old b ((h.tries k (by rw[←h.slen];exact i) i).lt b f).2];exact j.1 _ e b f
 ·obtain⟨k,i,rfl⟩:=vl e;rw[m.old b ((h.ji k (by rw[←h.blen];exact i) i).2.lt b f).2];exact j.2 _ e b f
theorem Pe.ofNext{own:Nat->zn}{e:Nat}{J:z9}{P:xr}(h:P2 lo w e J P)(f:zd (e::P.sv.ownBlock.toList) w w'):Pe lo Rc w own w' own:=
 Pe.ofSave own f fun b d=>by
  rcases zw.1 d with rfl|d
  ·exact⟨h.low,h.box.lt,_,_,h.box,Ci (by decide)⟩
  ·have a:=yv d;obtain⟨c,g⟩:=qr h.ja a;exact⟨yW h.ja a,yO h.ja a,c,_,g,Ci (by decide)⟩
theorem zU.modJ{own:Nat->zn}{b:Nat}{R:zx}{wd mr mx:Nat}{Q:ua}(h:zU lo w own b R wd mr mx Q)(m:Pe lo Rc w own w' own'):zU lo w' own' b R wd mr mx Q:=
 h.mod m (km (by decide)) (km (by decide)) (km (by decide)) (fun _=>km (by decide) _) (fun q t c a=>by
  rcases zw.1 a with rfl|a
  ·exact c (by decide)
  ·rcases zw.1 a with rfl|a
   ·exact c (by decide)
   ·cases a)
def tJ(lo:Nat)(w:World)(own:Nat->zn)(c p:Nat)(R':zx)(b:Bool)(wd mr mx:Nat)(Q:ua)(e:Ending)(w':World):Prop:=e=.returned (.bool b)/\∃own' a,zU lo w' own' c R' wd mr mx ⟨Q.rv,Q.tbs,Q.fv,a⟩/\Pe lo (kd p) w own w' own'
theorem B9(w:World)(own:Nat->zn)(x C:Nat)(R R':zx)(J:z9)(P:xr)(wd mr mx:Nat)(Q:ua)(p n:Nat)(b:Bool)(h:zU lo w own x R wd mr mx Q)(hj:P2 lo w C J P)(D:mF own P p)(au:lo<=w.heap.size)(hr:qL mr p n R J=some (R',b)):
  Calls prog 208 #[.pointer (some ⟨x,0,none⟩),.int .i64 p,.pointer (some ⟨C,0,none⟩)] w fun e w'=>tJ lo w own x p R' b wd mr mx Q e w':=by
 have HR:=OY hr;have H0:Hid (zU lo w own x R wd mr mx ⟨Q.rv,Q.tbs,Q.fv,Q.fvs⟩/\P2 lo w C J P/\mF own P p):=⟨h,hj,D⟩;have ab:Hid (Pe lo (kd p) w own w own):=Pe.refl w own;clear h hj D hr;go_enter func208,ntmps208;go_wp2;go_loopg [] n (fun k wr=>∃(t:zx) (Jk:z9) (a:Nat->zn) (E:List Value),Hid (qL mr p k t Jk=some (R',b))/\Hid (zU lo wr a x t wd mr mx ⟨Q.rv,Q.tbs,Q.fv,E⟩/\P2 lo wr C Jk P/\mF a P p)/\Hid (Pe lo (kd p) w own wr a))
 case atStart=>exact⟨R,J,own,Q.fvs,HR,H0,ab⟩
 case round=>
  clear HR H0 ab;obtain⟨t,Jk,a,E,HQ,HK,HM⟩:=hrel;have ao:=HM.out.size;cases gk with
  |zero=>have q:=HQ.out;simp[qL] at q
  |succ m=>
   have q:=HQ.out;unfold qL at q;cases hn:mq m Jk with
   |none=>rw[hn] at q;cases q
   |some ar=>
    obtain⟨f,bn⟩:=ar;rw[hn] at q;have U:=OY (QE wr C Jk P m f bn HK.out.2.1 hn);have O:Hid (∀W,P2 lo W C f P->zd (C::P.sv.ownBlock.toList) wr W->(zU lo W a x t wd mr mx ⟨Q.rv,Q.tbs,Q.fv,E⟩/\P2 lo W C f P/\mF a P p)/\Pe lo (kd p) w own W a):=fun W h1 h2=>by
     have m:=Pe.ofNext (own:=a) HK.out.2.1 h2;exact⟨⟨HK.out.1.modJ m,h1,HK.out.2.2⟩,HM.out.trans (m.more fun _ _ q=>ze q)⟩
    clear hn HQ;cases bn with
    |false=>
     simp only[zs,yo] at q;have Y:=OY q;clear q;go_wp2_with (first|(go_at_call 215;refine U.out.mono ?_;rintro e F ⟨rfl,r,l⟩;obtain⟨y,o⟩:=O.out _ r l;clear r l))
     obtain⟨j,ai,ah⟩:=y;have aw:=OY j;have u:=OY o;have al:=OY fun W hW=>K6 W C f P (ai.below hW);obtain⟨aq,av,_,_,_,H,_,_,_,_⟩:=j.at;have aa:=j.box.set 3 (.int .i64 (IntKind.i64.wrap (t.jh+f.jh)));have ag:zd [x] F (F.setCell ⟨x,3,none⟩ (.int .i64 (IntKind.i64.wrap (t.jh+f.jh)))):=zd.set _ _ _ _;have ac:Pe lo (kd p) F a (F.setCell ⟨x,3,none⟩ (.int .i64 (IntKind.i64.wrap (t.jh+f.jh)))) a:=Pe.set a j.box j.low (zf (ze (zf rfl))) _ _;have T:=j.rebox (R':={t with jh:=IntKind.i64.wrap (t.jh+f.jh)}) ag (by simpa using aa) rfl rfl j.few.2.2;rw[Y.out.1] at T;have an:=OY T;have ak:=OY (u.out.trans ac);clear T ac aa ag j o ai ah;have ap:=IntWalk.i64_in;refine wp_region_noPanic ?_;refine eM (S:=fun w'=>w'.cell? ⟨x,3,none⟩=some (.int .i64 t.jh)) (d:=11) (by kernel_rfl) H (fun c=>?_);refine xX (i:=0) (v:=?v0) rfl (by kernel_rfl) (by kernel_rfl) (by kernel_rfl) (by kernel_rfl) (fun _ _ _ h=>h) (zf ⟨by rfl,?hy0⟩) c ?rest0
     case hy0=>
      intro X B;go_simp
      (try with_reducible rfl)
     refine xX (i:=1) (v:=?v1) rfl (by kernel_rfl) (by kernel_rfl) (by kernel_rfl) (by kernel_rfl) (fun _ _ _ h=>h) (zf ⟨by rfl,?hy1⟩) c ?rest1
     case hy1=>
      intro X B;go_simp
      (try with_reducible rfl)
     refine xX (i:=2) (v:=?v2) rfl (by kernel_rfl) (by kernel_rfl) (by kernel_rfl) (by kernel_rfl) (fun _ _ _ h=>h) (zf ⟨by rfl,?hy2⟩) c ?rest2
     case hy2=>
      intro X B;go_simp
      (try with_reducible rfl)
     refine xX (i:=3) (v:=?v3) rfl (by kernel_rfl) (by kernel_rfl) (by kernel_rfl) (by kernel_rfl) (fun _ _ _ h=>h) (zf ⟨by rfl,?hy3⟩) c ?rest3
     case hy3=>
      intro X B;go_simp
      (try with_reducible rfl)
     refine xX (i:=4) (v:=?v4) rfl (by kernel_rfl) (by kernel_rfl) (by kernel_rfl) (by kernel_rfl) (fun _ _ _ h=>h) (zf ⟨by rfl,?hy4⟩) c ?rest4
     case hy4=>
      intro X B;go_simp
      (try with_reducible rfl)
     refine xX (i:=5) (v:=?v5) rfl (by kernel_rfl) (by kernel_rfl) (by kernel_rfl) (by kernel_rfl) (fun _ _ _ h=>h) (zf ⟨by rfl,?hy5⟩) c ?rest5
     case hy5=>
      intro X B;go_simp
      (try with_reducible rfl)
     refine gU (i:=6) (by kernel_rfl) rfl (fun K A=>?_);go_simp
     refine(al.out _ (by exact(zI (zo _ _) 1))).mono ?_;rintro e I ⟨rfl,rfl⟩;refine A.out _ _ (fun _=>H) ?_;clear A K;refine xX (i:=7) (v:=?v7) rfl (by kernel_rfl) (by kernel_rfl) (by kernel_rfl) (by kernel_rfl) (fun _ _ _ h=>h) (zf ⟨by rfl,?hy7⟩) c ?rest7
     case hy7=>
      intro X B;go_simp
      (try with_reducible rfl)
     refine gU (i:=8) (by kernel_rfl) rfl (fun K A=>?_);go_simp
     refine A.out _ _ (fun _=>H) ?_;clear A K;refine gU (i:=9) (by kernel_rfl) rfl (fun K A=>?_);go_simp
     refine A.out _ _ (fun _=>H) ?_;clear A K;refine gU (i:=10) (by kernel_rfl) rfl (fun K A=>?_);go_simp
     refine A.out _ _ (fun _=>H) ?_;clear A K;refine gU (i:=11) (by kernel_rfl) rfl (fun K A=>?_);go_simp
     refine A.out _ _ (fun hq=>zC rfl hq) ?_;clear A K;refine iz (by kernel_rfl) ?_ _;refine NoPanic.normal ?_;have ad:Below (F.setCell ⟨x,3,none⟩ (.int .i64 (IntKind.i64.wrap (t.jh+f.jh)))).heap.size (F.setCell ⟨x,3,none⟩ (.int .i64 (IntKind.i64.wrap (t.jh+f.jh)))) (F.setCell ⟨x,3,none⟩ (.int .i64 (IntKind.i64.wrap (t.jh+f.jh)))).drew:=(by go_grown);have hf:=Y.out.2;go_wp2;go_ret;exact⟨by rw[←hf];rfl,a,E,an.out.below ad,ak.out.trans (Pe.of a ad)⟩
    |true=>
     dsimp only at q;cases ha:kN mr t p (zG f.head f.qy) with
     |none=>rw[ha] at q;cases q
     |some am=>
      obtain⟨R3,b3⟩:=am;simp only[ha] at q;have af:=OY fun W (hW:P2 lo W C f P)=>Mm W C f P hW;rw[Fq] at ha;have ae:=OY fun W (hl:lo<=W.heap.size) (hW:zU lo W a x t wd mr mx ⟨Q.rv,Q.tbs,Q.fv,E⟩)=>oA W a x t R3 wd mr mx _ p _ _ _ b3 hW hl ha;generalize Pa f.head f.qy 0=r0 at *;generalize Pa f.head f.qy 1=r1 at *;generalize Pa f.head f.qy 2=r2 at *;clear ha;cases b3 with
      |false=>
       simp only[zs,yo] at q;have Y:=OY q;clear q;go_wp2_with (first|(go_at_call 215;refine U.out.mono ?_;rintro e F ⟨rfl,r,l⟩;obtain⟨y,o⟩:=O.out _ r l;clear r l;have z:=OY y;have u:=OY o;clear y o)|(go_at_call 216;refine(af.out _ z.out.2.1).mono ?_;rintro e I ⟨rfl,s⟩)|(go_at_call 121;refine(ae.out _ (by exact(show lo<=(I.alloc (.cells #[.int .i64 r0,.int .i64 r1,.int .i64 r2] 165)).heap.size by rw[World.size_alloc];have:=s.size;have:=u.out.size;omega)) (by exact(z.out.1.below s).below (by go_grown))).mono ?_;rintro e w4 ⟨rfl,g,V,N,L⟩))
       go_ret;have G:Pe lo (kd p) F a w4 g:=((Pe.of a s).trans (Pe.of a (show Below I.heap.size I (I.alloc (.cells #[.int .i64 r0,.int .i64 r1,.int .i64 r2] 165)) from(by go_grown)))).trans (L.more fun _ _ q=>zf q);exact⟨by rw[←Y.out.2];rfl,g,V,by rw[←Y.out.1];exact N,u.out.trans G⟩
      |true=>
       have aj:Hid (qL mr p m R3 f=some (R',b)):=q;clear q;go_wp2_with (first|(go_at_call 215;refine U.out.mono ?_;rintro e F ⟨rfl,r,l⟩;obtain⟨y,o⟩:=O.out _ r l;clear r l;have z:=OY y;have u:=OY o;clear y o)|(go_at_call 216;refine(af.out _ z.out.2.1).mono ?_;rintro e I ⟨rfl,s⟩)|(go_at_call 121;refine(ae.out _ (by exact(show lo<=(I.alloc (.cells #[.int .i64 r0,.int .i64 r1,.int .i64 r2] 165)).heap.size by rw[World.size_alloc];have:=s.size;have:=u.out.size;omega)) (by exact(z.out.1.below s).below (by go_grown))).mono ?_;rintro e w4 ⟨rfl,g,V,N,L⟩))
       have M:Below I.heap.size I (I.alloc (.cells #[.int .i64 r0,.int .i64 r1,.int .i64 r2] 165)):=(by go_grown);have G:Pe lo (kd p) F a w4 g:=((Pe.of a s).trans (Pe.of a M)).trans (L.more fun _ _ q=>zf q);have Z:=((z.out.2.1.below s).below M).add L z.out.2.2;go_roundg m
       case measure=>omega
       case rel=>exact⟨R3,f,g,V,aj,⟨N,Z.1,Z.2⟩,u.out.trans G⟩
end
end Go.Proofs.YteampbddflhngaaGreat
