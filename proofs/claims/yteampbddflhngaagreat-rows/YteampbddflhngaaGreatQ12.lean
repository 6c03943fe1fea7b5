import Derived.Test.YteampbddflhngaaGreatQ09
namespace Go.Proofs.YteampbddflhngaaGreat
set_option linter.all false
set_option maxRecDepth 100000
set_option maxHeartbeats 4000000
open Go.RowKit
section
open Go.Proofs.Tryz
variable {lo:Nat}{w:World}{rb wd mr mx:Nat}{R:zu}
def Au(p:Nat):TypeId->zn->Prop:=λt ρ=>t=165/\ρ=(0,p,1)
def fT(p:Nat):TypeId->zn->Prop:=λt ρ=>(¬Su t/\ρ=(0,p,0))∨t=214∨t=161∨Au p t ρ
def zY.setTrie{w':World}{own own':Nat->zn}{Q:um}{p:Nat}{T:zj}(h:zY lo w own rb R wd mr mx Q)(i:p<R.rows.length)(f:p<Q.tbs.length)(g:xa lo w' own' (0,p,0) Q.tbs[p] T)(m:R9 lo (onT (·=(0,p,0))) w own w' own'):zY lo w' own' rb {R with rows:=R.rows.set p T} wd mr mx Q:=by
 have c:(R.rows.set p T).length=R.rows.length:=by simp
 refine⟨h.low,h.box.mod m (qX (by decide) _),by rw[c];exact vC h.rows m (qX (by decide)),by rw[c];exact h.tlen,λq a b=>?_,vC h.qp m (qX (by decide)),h.flen,λq a b=>⟨(h.jo q a b).1.mod m (qX (by decide)),λx d=>?_⟩,by rw[c];exact h.few,h.small⟩;by_cases e:q=p;subst e;simp only[mw];exact g;simp only[m8 (Ne.symm e)];exact(h.tries q (by simpa using a) b).onT m (by simp[e]);rw[m.old x (yA (h.jo q a b).1.1 d)];exact(h.jo q a b).2 x d
def zY.rebox{w':World}{own:Nat->zn}{R':zu}{Q:um}(h:zY lo w own rb R wd mr mx Q)(hs:zc [rb] w w')(l:Rz w' rb #[Q.rv,ι R'.count,ι R'.qx,ι R'.jg,ι wd,ι mr,ι mx,Q.fv] 214)(j:R'.rows=R.rows)(k:R'.qp=R.qp)(m:R'.count<=1048577/\R'.qx<=1048576):zY lo w' own rb R' wd mr mx Q:=by
 have e:=RL.box h.box;obtain⟨i,d,c,f,g⟩:=R';simp only at j k;subst j;subst k;exact⟨h.low,l,yI h.rows hs e (by decide),h.tlen,λq a b=>(h.tries q a b).saveT hs e (by decide),yI h.qp hs e (by decide),h.flen,λq a b=>⟨⟨yI (h.jo q a b).1.1 hs e (by decide),(h.jo q a b).1.2⟩,(h.jo q a b).2⟩,⟨h.few.1,h.few.2.1,m⟩,h.small⟩
def zY.pushFresh{o:World}{own:Nat->zn}{s v:Nat}{Q:um}{p:Nat}{v':Value}{rs:List zi}(h:zY lo w own rb R wd mr mx Q)(J:p<R.qp.length)(F:p<Q.fvs.length)(y:Q.fv=.slice (some ⟨s,0,none⟩) R.qp.length v)(L:zc Q.fvs[p].ownBlock.toList w o)(G:RG lo o v' rs)(B:v'.ownBlock=Q.fvs[p].ownBlock∨∃g,v'.ownBlock=some g/\w.heap.size<=g):
  zY lo (o.setCell ⟨s,p,none⟩ v') (ext own w.heap.size (0,p,1)) rb {R with qp:=R.qp.set p rs} wd mr mx ⟨Q.rv,Q.tbs,Q.fv,Q.fvs.set p v'⟩/\R9 lo (fT p) w own (o.setCell ⟨s,p,none⟩ v') (ext own w.heap.size (0,p,1)):=by
 have f:=h.jo p J F;have r:R9 lo (Au p) w own o (ext own w.heap.size (0,p,1)):=⟨λb C=>dO _ _ _ _ C,_,L,λb C=>by
  have n:=xb C;obtain⟨c,O⟩:=jL f.1.1 n;exact⟨yX f.1.1 n,yA f.1.1 n,c,_,O,rfl,f.2 b n⟩⟩
 have E:∀{t:TypeId},t≠165->∀ρ,¬Au p t ρ:=λI ρ q=>I q.1;have z:=vC h.qp r (E (by decide));have d:=z;rw[y] at d;have u:=uj d p (by omega) v';obtain⟨S,A⟩:=jL d (b:=s) rfl;have i:zc [s] o (o.setCell ⟨s,p,none⟩ v'):=zc.set _ _ _ _;have m:=RL.box A;have k:(R.qp.set p rs).length=R.qp.length:=by simp
 have D:=yX d rfl;refine⟨⟨h.low,(h.box.mod r (E (by decide) _)).saveT i m (by decide),yI (vC h.rows r (E (by decide))) i m (by decide),h.tlen,λq a b=>((h.tries q a b).mod r (λt K q=>K (by rw[q.1];decide))).saveT i m (by decide),by rw[k,y];exact u,by rw[k];simpa using h.flen,λq a b=>?_,⟨h.few.1,by rw[k];exact h.few.2.1,h.few.2.2⟩,h.small⟩,?_⟩;by_cases e:q=p;subst e;simp only[mw];refine⟨⟨yI G.1 i m (by decide),G.2⟩,λx j=>?_⟩;rcases B with e|⟨g,e,H⟩;rw[e] at j;rw[dO _ _ _ _ (yA f.1.1 j)];exact f.2 x j;rw[e] at j;simp only[zr] at j;subst j;simp[ext,Nat.not_lt.2 H];simp only[m8 (Ne.symm e)];have N:q<R.qp.length:=by simpa using a
 have P:q<Q.fvs.length:=by simpa using b
 have l:=h.jo q N P;refine⟨⟨yI (l.1.modR r λx j M=>e (by have:=l.2 x j;rw[M.2] at this;simp at this;exact this.symm)).1 i m (by decide),l.1.2⟩,λx j=>?_⟩;rw[dO _ _ _ _ (yA l.1.1 j)];exact l.2 x j;exact(r.more λt ρ q=>ze (ze (ze q))).trans (R9.set _ A D (ze (ze (zh rfl))) _ _)
def Qd(lo:Nat)(w:World)(own:Nat->zn)(rb p:Nat)(R':zu)(b:Bool)(wd mr mx:Nat)(Q:um)(e:Ending)(w':World):Prop:=e=ε (.bool b)/\∃a c,zY lo w' a rb R' wd mr mx ⟨Q.rv,Q.tbs,Q.fv,c⟩/\R9 lo (fT p) w own w' a
def iX{R':zu}{p:Nat}{row:zi}{b:Bool}(h:jM mr R p row=some (R',b)):p<R.rows.length/\p<R.qp.length/\okT (R.rows.getD p zj.zero)=true/\R.count<=1048576/\(R.qp.getD p []).length<=1048576/\((yx (R.rows.getD p zj.zero) row R.qx).2=false/\R'={R with rows:=R.rows.set p (yx (R.rows.getD p zj.zero) row R.qx).1}/\b=true∨(yx (R.rows.getD p zj.zero) row R.qx).2=true/\R'={R with rows:=R.rows.set p (yx (R.rows.getD p zj.zero) row R.qx).1,qp:=R.qp.set p (R.qp.getD p []++[row]),count:=R.count+1}/\b=decide (R.count+1<=mr)):=by
 unfold jM at h;split at h;rename_i i;obtain⟨f,g,e,c,d⟩:=i;refine⟨f,g,e,c,d,?_⟩;rcases a:yx (R.rows.getD p zj.zero) row R.qx with⟨T,_|_⟩
 rw[a] at h;simp only[zr,yc] at h;exact zh ⟨rfl,h.1.symm,h.2.symm⟩;rw[a] at h;simp only[zr,yc] at h;exact ze ⟨rfl,h.1.symm,h.2.symm⟩;cases h
def Eb(w:World)(own:Nat->zn)(rb:Nat)(R R':zu)(wd mr mx:Nat)(Q:um)(p x y z:Nat)(b:Bool)(h:zY lo w own rb R wd mr mx Q)(bP:lo<=w.heap.size)(hr:jM mr R p [x,y,z]=some (R',b)):
  Calls prog 121 #[(π rb),ι p,.agg #[ι x,ι y,ι z]] w λe u=>Qd lo w own rb p R' b wd mr mx Q e u:=by
 obtain⟨i0,hi,bA,bx,b6⟩:=info_parts Rs;obtain⟨U,C,aA,bC,b8,c⟩:=iX hr;have ak:p<Q.tbs.length:=by rw[h.tlen];exact U
 have D:p<Q.fvs.length:=by rw[h.flen];exact C
 obtain⟨hl,hf,h0,h1,h2,h3,h4,h5,h6,h7⟩:=h.at;obtain⟨g,aL,a4,hg,hc⟩:=h.trie p U ak;obtain⟨gf,am,a2,bR,bc⟩:=h.frow p C D;rw[a4] at h0;rw[a2] at h7;have HR:=Ry h;have a5:=Ry a4;have X:=Ry a2;have aO:R.rows.getD p zj.zero=R.rows[p]:=by simp[U]
 have aD:R.qp.getD p []=R.qp[p]:=by simp[C]
 rw[aO] at aA c;rw[aD] at c b8;have HT:=Ry (h.tries p U ak);have ao:=Ry λW hW=>wQ W own (0,p,0) Q.tbs[p] R.rows[p] x y z R.qx (HT.out.below hW) aA;have bD:(p:Int)<(R.rows.length:Int):=by omega
 have bH:(p:Int)<(R.qp.length:Int):=by omega
 have bN:=h.small.2.1;have bz:=h.few.1;have bd:=h.few.2.1;have aT:=Ry λW u ar (T:zj) (hW:μ w W) (hT:xa lo u ar (0,p,0) Q.tbs[p] T) (m:R9 lo (onT (·=(0,p,0))) W own u ar)=>(HR.out.below hW).setTrie U ak hT m;have E:Hid ((yx R.rows[p] [x,y,z] R.qx).2=false/\R'={R with rows:=R.rows.set p (yx R.rows[p] [x,y,z] R.qx).1}/\b=true∨(yx R.rows[p] [x,y,z] R.qx).2=true/\R'={R with rows:=R.rows.set p (yx R.rows[p] [x,y,z] R.qx).1,qp:=R.qp.set p (R.qp[p]++[[x,y,z]]),count:=R.count+1}/\b=decide (R.count+1<=mr)):=c;have b7:=Ry λb (hb:Q.fvs[p].ownBlock=some b)=>yA (h.jo p C D).1.1 hb;clear h a4 a2 aA c aO aD h1 h3 h4 h5 h6;have bL:Hid (Q.tbs[p]=Q.tbs[p]):=rfl;generalize b9:(yx R.rows[p] [x,y,z] R.qx).1=T' at *;clear b9;generalize bf:(yx R.rows[p] [x,y,z] R.qx).2=a7 at *;clear bf;have aJ:=Rz.new w #[ι x,ι y,ι z] 165;go_enter func121,ntmps121;go_wp2;go_region_held3 (λu=>u.cell? ⟨rb,0,none⟩=some (.slice (some ⟨g,0,none⟩) R.rows.length aL)/\u.cell? ⟨g,p,none⟩=some (.pointer (some ⟨Q.tbs[p],0,none⟩))/\u.cell? ⟨rb,2,none⟩=some (ι R.qx)/\u.cell? ⟨w.heap.size,0,none⟩=some (ι x)/\u.cell? ⟨w.heap.size,1,none⟩=some (ι y)/\u.cell? ⟨w.heap.size,2,none⟩=some (ι z)) (first|(exact⟨a9,aS,aI,B,n,s⟩)|go_keep|(go_simp;done)) (first|(go_at_call 163;refine(ao.out _ (by exact(by go_grown))).mono ?_;rintro e F ⟨rfl,aR,ai⟩;have az:μ w _:=(show μ w (w.alloc (.cells #[ι x,ι y,ι z] 165)).drew from(by go_grown));have ag:=aT.out _ _ _ _ az aR ai;obtain⟨b4,br,a9,aW,aI,bi,bg,aZ,b1,ae⟩:=ag.at;rw[a5.out] at a9;rw[X.out] at ae;have j:=(aJ.drew).mod ai (qX (by decide) _);have B:=j.rules.1 0;have n:=j.rules.1 1;have s:=j.rules.1 2;simp only[lT,fz,lZ] at B n s;obtain⟨g',bG,L,bI,aS⟩:=ag.trie p (by simpa using U) ak;rw[a5.out] at L;simp only[Value.slice.injEq,zr,Addr.mk.injEq,and_true] at L;have a6:=L.1;clear L;subst a6))
 have av:R9 lo (fT p) w own F _:=(R9.of own az).trans (ai.more λ_ _ q=>zh q);have t:Hid (zY lo F (ext own (w.alloc (.cells #[ι x,ι y,ι z] 165)).drew.heap.size (0,p,0)) rb {R with rows:=R.rows.set p T'} wd mr mx Q):=ag;have Z:Hid (R9 lo (fT p) w own F (ext own (w.alloc (.cells #[ι x,ι y,ι z] 165)).drew.heap.size (0,p,0))):=av;clear ag av aR ai HT ao aT hc h0 h2 h7 bc hl hf aJ az a5;generalize ext own (w.alloc (.cells #[ι x,ι y,ι z] 165)).drew.heap.size (0,p,0)=ab at *;cases a7
 .have c:=E.out;simp only[gQ,false_and,or_false,true_and] at c;obtain⟨rfl,rfl⟩:=c;go_wp2;go_ret;exact⟨rfl,ab,Q.fvs,t.out,Z.out⟩
 have c:=E.out;simp only[Bool.true_eq_false,false_and,false_or,true_and] at c;have aC:=Ry c.1;have ba:=Ry c.2;clear c E;obtain⟨bJ,b5,J,bE,H⟩:=t.out.frow p C D;rw[X.out] at J;simp only[Value.slice.injEq,zr,Addr.mk.injEq,and_true] at J;have a6:=J.1;clear J;subst a6;have o:=(t.out.jo p C D).1.1;obtain⟨aa,l,af⟩:=zq o;rw[af] at H;have ah:Hid (Q.fvs[p]=.slice aa R.qp[p].length l):=af;rw[af] at o;clear af;have bb:Hid (∀r∈R.qp[p],r.length=3):=(t.out.jo p C D).1.2;have bO:=Z.out.size;have bF:=j.lt;have aw:=Ry j;generalize ax:R.qp[p].length=fl at *;have aP:=Ry ax;clear ax j bi bg b1 aS;go_wp2;refine wp_region_noPanic ?_;refine oH (S:=λu=>u.cell? ⟨rb,7,none⟩=some (.slice (some ⟨gf,0,none⟩) R.qp.length am)/\u.cell? ⟨gf,p,none⟩=some (.slice aa fl l)/\u.cell? ⟨w.heap.size,0,none⟩=some (ι x)/\u.cell? ⟨w.heap.size,1,none⟩=some (ι y)/\u.cell? ⟨w.heap.size,2,none⟩=some (ι z)) (d:=16) (by kernel_rfl) ⟨ae,H,B,n,s⟩ (λa=>?_);refine uk (i:=0) (v:=?v0) rfl (by kernel_rfl) (by kernel_rfl) (by kernel_rfl) (by kernel_rfl) (λ_ _ _ h=>h) (zh ⟨by rfl,?hy0⟩) a ?rest0
 case hy0=>
  intro N f;go_simp
  (try with_reducible rfl)
 refine uk (i:=1) (v:=?v1) rfl (by kernel_rfl) (by kernel_rfl) (by kernel_rfl) (by kernel_rfl) (λ_ _ _ h=>h) (zh ⟨by rfl,?hy1⟩) a ?rest1
 case hy1=>
  intro N f;go_simp
  (try with_reducible rfl)
 refine uk (i:=2) (v:=?v2) rfl (by kernel_rfl) (by kernel_rfl) (by kernel_rfl) (by kernel_rfl) (λ_ _ _ h=>h) (zh ⟨by rfl,?hy2⟩) a ?rest2
 case hy2=>
  intro N f;go_simp
  (try with_reducible rfl)
 refine uk (i:=3) (v:=?v3) rfl (by kernel_rfl) (by kernel_rfl) (by kernel_rfl) (by kernel_rfl) (λ_ _ _ h=>h) (zh ⟨by rfl,?hy3⟩) a ?rest3
 case hy3=>
  intro N f;go_simp
  (try with_reducible rfl)
 refine uk (i:=4) (v:=?v4) rfl (by kernel_rfl) (by kernel_rfl) (by kernel_rfl) (by kernel_rfl) (λ_ _ _ h=>h) (zh ⟨by rfl,?hy4⟩) a ?rest4
 case hy4=>
  intro N f;go_simp
  (try with_reducible rfl)
 refine uk (i:=5) (v:=?v5) rfl (by kernel_rfl) (by kernel_rfl) (by kernel_rfl) (by kernel_rfl) (λ_ _ _ h=>h) (zh ⟨by rfl,?hy5⟩) a ?rest5
 case hy5=>
  intro N f;go_simp
  (try with_reducible rfl)
 refine uk (i:=6) (v:=?v6) rfl (by kernel_rfl) (by kernel_rfl) (by kernel_rfl) (by kernel_rfl) (λ_ _ _ h=>h) (zh ⟨by rfl,?hy6⟩) a ?rest6
 case hy6=>
  intro N f;go_simp
  (try with_reducible rfl)
 refine uk (i:=7) (v:=?v7) rfl (by kernel_rfl) (by kernel_rfl) (by kernel_rfl) (by kernel_rfl) (λ_ _ _ h=>h) (zh ⟨by rfl,?hy7⟩) a ?rest7
 case hy7=>
  intro N f;go_simp
  (try with_reducible rfl)
 refine uk (i:=8) (v:=?v8) rfl (by kernel_rfl) (by kernel_rfl) (by kernel_rfl) (by kernel_rfl) (λ_ _ _ h=>h) (zh ⟨by rfl,?hy8⟩) a ?rest8
 case hy8=>
  intro N f;go_simp
  (try with_reducible rfl)
 refine uk (i:=9) (v:=?v9) rfl (by kernel_rfl) (by kernel_rfl) (by kernel_rfl) (by kernel_rfl) (λ_ _ _ h=>h) (zh ⟨by rfl,?hy9⟩) a ?rest9
 case hy9=>
  intro N f;go_simp
  (try with_reducible rfl)
 refine uk (i:=10) (v:=?v10) rfl (by kernel_rfl) (by kernel_rfl) (by kernel_rfl) (by kernel_rfl) (λ_ _ _ h=>h) (zh ⟨by rfl,?hy10⟩) a ?rest10
 case hy10=>
  intro N f;go_simp
  (try with_reducible rfl)
 refine uk (i:=11) (v:=?v11) rfl (by kernel_rfl) (by kernel_rfl) (by kernel_rfl) (by kernel_rfl) (λ_ _ _ h=>h) (zh ⟨by rfl,?hy11⟩) a ?rest11
 case hy11=>
  intro N f;go_simp
  (try with_reducible rfl)
 refine uk (i:=12) (v:=?v12) rfl (by kernel_rfl) (by kernel_rfl) (by kernel_rfl) (by kernel_rfl) (λ_ _ _ h=>h) (zh ⟨by rfl,?hy12⟩) a ?rest12
 case hy12=>
  intro N f;go_simp
  (try with_reducible rfl)
 refine gX (i:=13) (by kernel_rfl) rfl (λK hK=>?_);go_simp
 have O:μ F (F.alloc (.cells #[ι x,ι y,ι z] 165)).drew:=(by go_grown);refine hK.out _ _ (λ_=>⟨(Below.cell (p:=⟨rb,7,none⟩) O (show rb<F.heap.size by omega)).trans ae,(Below.cell (p:=⟨gf,p,none⟩) O (show gf<F.heap.size by omega)).trans H,(Below.cell (p:=⟨w.heap.size,0,none⟩) O (show w.heap.size<F.heap.size by omega)).trans B,(Below.cell (p:=⟨w.heap.size,1,none⟩) O (show w.heap.size<F.heap.size by omega)).trans n,(Below.cell (p:=⟨w.heap.size,2,none⟩) O (show w.heap.size<F.heap.size by omega)).trans s⟩) ?_;clear hK K a;refine gX (i:=14) (by kernel_rfl) rfl (λK hK=>?_);refine fw F _ [ι x,ι y,ι z] 165 rfl (.tmp 57) (.tmp 59) 161 rfl lo 165 i0 _ 3 24 underlying161 hi bA bx b6 rfl (by decide) (.slice aa fl l) fl (j8 R.qp[p]) (by simp[Act.eval]) o (by exact O) F.heap.size 1 (by simp[Act.eval]) (by exact Rz.drew (Rz.new _ _ _)) rfl (by simp[Value.oneCell']) (by omega) (by omega) (by omega) ?_;intro v' w3 a1 ad ap bs bB;obtain⟨aj,I,rfl⟩:=zq a1;have aQ:=RL.own o;have au:=t.out.box.saveT ad aQ (by decide);have al:=au.rules.1 7;simp only[lT,fz,lZ] at al;rw[X.out] at al;have M:=yI t.out.qp ad aQ (by decide);rw[X.out] at M;have ay:w3.cell? ⟨gf,p,none⟩=some (.slice aa fl l):=by
  obtain⟨bQ,aY,an,_,_,a8⟩:=yw M (show 0<R.qp.length by omega);simp only[Value.slice.injEq,zr,Addr.mk.injEq,and_true] at an;have e:=an.1;subst e;have:=a8 p Q.fvs[p] (by simp[D]);rw[ah.out] at this;exact this
 have aG:=uH M;have G:=aw.out.save ad (λhm=>by
  have:=b7.out w.heap.size (by rw[ah.out];exact xb hm);omega)
 have Y:=G.rules.1 0;have V:=G.rules.1 1;have ac:=G.rules.1 2;simp only[lT,fz,lZ] at Y V ac;have k:w3.cell? ⟨rb,7,none⟩=some (.slice (some ⟨gf,0,none⟩) R.qp.length am)/\w3.cell? ⟨gf,p,none⟩=some (.slice aa fl l)/\w3.cell? ⟨w.heap.size,0,none⟩=some (ι x)/\w3.cell? ⟨w.heap.size,1,none⟩=some (ι y)/\w3.cell? ⟨w.heap.size,2,none⟩=some (ι z):=⟨al,ay,Y,V,ac⟩;refine hK.out _ _ (λ_=>k) ?_;clear hK K;refine uk (i:=15) (v:=?v15) rfl (by kernel_rfl) (by kernel_rfl) (by kernel_rfl) (by kernel_rfl) (λ_ _ _ h=>h) (zh ⟨by rfl,?hy15⟩) k ?rest15
 case hy15=>
  intro N f;go_simp
  (try with_reducible rfl)
 refine gX (i:=16) (by kernel_rfl) rfl (λK hK=>?_);go_simp
 refine hK.out _ _ (λhq=>z9 rfl hq) ?_;clear hK K;refine oL (by kernel_rfl) ?_ _;refine NoPanic.normal ?_;have hP:=zY.pushFresh (v':=.slice aj (fl+1) I) (rs:=R.qp[p]++[[x,y,z]]) t.out C D X.out (by rw[ah.out];exact ad) ⟨by rw[yC,aP.out];simpa [j8,Sf] using a1,λr hr=>by rcases zW.1 hr with q|q;exact bb.out r q;simp at q;subst q;rfl⟩ (by rw[ah.out];exact ap);obtain⟨aF,aB⟩:=hP;have P:Hid (zY lo (w3.setCell ⟨gf,p,none⟩ (.slice aj (fl+1) I)) (ext ab F.heap.size (0,p,1)) rb {R with rows:=R.rows.set p T',qp:=R.qp.set p (R.qp[p]++[[x,y,z]])} wd mr mx ⟨Q.rv,Q.tbs,Q.fv,Q.fvs.set p (.slice aj (fl+1) I)⟩):=aF;have bu:=Ry (Z.out.trans aB);clear aF aB k al ay aG Y V ac au M G a9 aW aI aZ ae B n s H b4 br t aw o a1 ad ap bs;generalize ext ab F.heap.size (0,p,1)=A at *;generalize w3.setCell ⟨gf,p,none⟩ (.slice aj (fl+1) I)=w5 at *;obtain⟨bp,bn,b0,aU,bq,bm,b2,aM,bk,b3⟩:=P.out.at;simp only at aU aM;clear b0 bq bm b2 bk b3;have aq:=P.out.box.set 1 (ι ((R.count:Int)+1));have aN:zc [rb] w5 (w5.setCell ⟨rb,1,none⟩ (ι ((R.count:Int)+1))):=zc.set _ _ _ _;have aE:R9 lo (fT p) w5 A (w5.setCell ⟨rb,1,none⟩ (ι ((R.count:Int)+1))) A:=R9.set A P.out.box P.out.low (ze (zh rfl)) _ _;have a0:=P.out.rebox (R':={R with rows:=R.rows.set p T',qp:=R.qp.set p (R.qp[p]++[[x,y,z]]),count:=R.count+1}) aN (by simpa using aq) rfl rfl ⟨by show R.count+1<=1048577;omega,P.out.few.2.2.2⟩;rw[←aC.out] at a0;have aH:=Ry a0;have aX:=Ry (bu.out.trans aE);clear a0 aE aq aN;go_upto_region 8 with fail
 generalize w5.setCell ⟨rb,1,none⟩ (ι ((R.count:Int)+1))=w6 at *;obtain⟨bM,bK,bh,a3,bt,bv,bo,bS,be,aV⟩:=aH.out.at;rw[aC.out] at a3;simp only at a3;have aK:((R.count+1:Nat):Int)=(R.count:Int)+1:=by omega
 rw[aK] at a3;clear bh bt bv bo be aV aU aM bp bn aK;go_quiet (fail)
 go_wp2;go_ret;have bw:decide ((R.count:Int)+1<=(mr:Int))=b:=by rw[ba.out];exact decide_eq_decide.2 (by omega)
 exact⟨by rw[←bw];rfl,A,_,aH.out.below (zI (zp _ _) _),aX.out.trans (R9.of A (zI (zp _ _) _))⟩
end
section
open Go.Proofs.Tryz
variable {lo:Nat}{w w':World}{own':Nat->zn}
def TP:TypeId->zn->Prop:=gO [310,323]
def kl(p:Nat):TypeId->zn->Prop:=orK (fT p) TP
def Co{l:List TypeId}{t:TypeId}{ρ:zn}(h:t∈l):gO l t ρ:=h
def gd{l:List TypeId}{t:TypeId}(h:t∉l):∀ρ,¬gO l t ρ:=λ_ q=>h q
def RR.mod{ok:TypeId->zn->Prop}{w w':World}{own own':Nat->zn}{d:Nat}{J:z7}{P:x9}(h:RR lo w d J P)(m:R9 lo ok w own w' own')(j:∀ρ,¬ok 310 ρ)(l:∀ρ,¬ok 323 ρ)(g:∀ρ,¬ok 325 ρ)(f:∀ρ,¬ok 327 ρ)(c:∀ρ,¬ok 284 ρ)(e:∀x∈P.tbs,∀b∈x.2,∀t,¬Su t->¬ok t (own b))(i:∀x∈P.bps,∀b∈x.2.2,∀t,¬Su t->¬ok t (own b)):RR lo w' d J P:=
 ⟨h.low,h.box.mod m (j _),h.head.mod m c,vC h.ja m l,h.slen,λk a b=>(h.tries k a b).mod m (e _ (zt b)),h.qi,vC h.bars m g,h.blen,λk a b=>⟨(h.jk k a b).1.mod m c,(h.jk k a b).2.mod m (i _ (zt b))⟩,h.hlen,λp a b=>⟨vC (h.jf p a b).1 m f,(h.jf p a b).2⟩,h.jl,h.few⟩
def ny(own:Nat->zn)(P:x9)(p:Nat):Prop:=(∀x∈P.tbs,∀b∈x.2,own b≠(0,p,0))/\(∀x∈P.bps,∀b∈x.2.2,own b≠(0,p,0))
def RR.add{own:Nat->zn}{n p:Nat}{J:z7}{P:x9}(h:RR lo w n J P)(m:R9 lo (fT p) w own w' own')(j:ny own P p):RR lo w' n J P/\ny own' P p:=by
 have i:∀{t:TypeId},Su t->t≠214->t≠161->t≠165->∀ρ,¬fT p t ρ:=λa b c d ρ q=>by
  rcases q with q|q|q|q;exact q.1 a;exact b q;exact c q;exact d q.1
 have o:∀{t:TypeId} {ρ:zn},¬Su t->ρ≠(0,p,0)->¬fT p t ρ:=λa b q=>by
  rcases q with q|q|q|q;exact b q.2;subst q;exact a (by decide);subst q;exact a (by decide);rw[q.1] at a;exact a (by decide)
 refine⟨h.mod m (i (by decide) (by decide) (by decide) (by decide)) (i (by decide) (by decide) (by decide) (by decide)) (i (by decide) (by decide) (by decide) (by decide)) (i (by decide) (by decide) (by decide) (by decide)) (i (by decide) (by decide) (by decide) (by decide)) (λx f b e t l=>o l (j.1 x f b e)) (λx f b e t l=>o l (j.2 x f b e)),λx f b e=>?_,λx f b e=>?_⟩;obtain⟨k,g,rfl⟩:=uO f;rw[m.old b ((h.tries k (by rw[←h.slen];exact g) g).lt b e).2];exact j.1 _ f b e;obtain⟨k,g,rfl⟩:=uO f;rw[m.old b ((h.jk k (by rw[←h.blen];exact g) g).2.lt b e).2];exact j.2 _ f b e
def R9.ofNext{own:Nat->zn}{e:Nat}{J:z7}{P:x9}(h:RR lo w e J P)(hs:zc (e::P.sv.ownBlock.toList) w w'):R9 lo TP w own w' own:=
 R9.ofSave own hs λb d=>by
  rcases zy.1 d with rfl|d
  .exact⟨h.low,h.box.lt,_,_,h.box,Co (by decide)⟩
  .have a:=xb d;obtain⟨c,f⟩:=jL h.ja a;exact⟨yX h.ja a,yA h.ja a,c,_,f,Co (by decide)⟩
def zY.modJ{own:Nat->zn}{c:Nat}{R:zu}{wd mr mx:Nat}{Q:um}(h:zY lo w own c R wd mr mx Q)(m:R9 lo TP w own w' own'):zY lo w' own' c R wd mr mx Q:=
 h.mod m (gd (by decide)) (gd (by decide)) (gd (by decide)) (λ_=>gd (by decide) _) (λq t b a=>by
  rcases zy.1 a with rfl|a
  .exact b (by decide)
  .rcases zy.1 a with rfl|a
   .exact b (by decide)
   .cases a)
def tT(lo:Nat)(w:World)(own:Nat->zn)(c p:Nat)(R':zu)(b:Bool)(wd mr mx:Nat)(Q:um)(e:Ending)(w':World):Prop:=e=ε (.bool b)/\∃own' a,zY lo w' own' c R' wd mr mx ⟨Q.rv,Q.tbs,Q.fv,a⟩/\R9 lo (kl p) w own w' own'
def F9(w:World)(own:Nat->zn)(z F:Nat)(R R':zu)(J:z7)(P:x9)(wd mr mx:Nat)(Q:um)(p n:Nat)(b:Bool)(h:zY lo w own z R wd mr mx Q)(hj:RR lo w F J P)(G:ny own P p)(av:lo<=w.heap.size)(hr:vG mr p n R J=some (R',b)):
  Calls prog 208 #[(π z),ι p,(π F)] w λe w'=>tT lo w own z p R' b wd mr mx Q e w':=by
 have HR:=Ry hr;have H0:Hid (zY lo w own z R wd mr mx ⟨Q.rv,Q.tbs,Q.fv,Q.fvs⟩/\RR lo w F J P/\ny own P p):=⟨h,hj,G⟩;have aa:Hid (R9 lo (kl p) w own w own):=R9.refl w own;clear h hj G hr;go_enter func208,ntmps208;go_wp2;go_loopg [] n (λk wr=>∃(t:zu) (Jk:z7) (a:Nat->zn) (E:List Value),Hid (vG mr p k t Jk=some (R',b))/\Hid (zY lo wr a z t wd mr mx ⟨Q.rv,Q.tbs,Q.fv,E⟩/\RR lo wr F Jk P/\ny a P p)/\Hid (R9 lo (kl p) w own wr a))
 case atStart=>exact⟨R,J,own,Q.fvs,HR,H0,aa⟩
 clear HR H0 aa;obtain⟨t,Jk,a,E,HQ,HK,HM⟩:=hrel;have ao:=HM.out.size;rcases gk with _|m;have q:=HQ.out;simp[vG] at q;have q:=HQ.out;unfold vG at q;rcases hn:fB m Jk with _|ar;rw[hn] at q;cases q;obtain⟨f,bn⟩:=ar;rw[hn] at q;have O:=Ry (Tp wr F Jk P m f bn HK.out.2.1 hn);have V:Hid (∀W,RR lo W F f P->zc (F::P.sv.ownBlock.toList) wr W->(zY lo W a z t wd mr mx ⟨Q.rv,Q.tbs,Q.fv,E⟩/\RR lo W F f P/\ny a P p)/\R9 lo (kl p) w own W a):=λW h1 h2=>by
  have m:=R9.ofNext (own:=a) HK.out.2.1 h2;exact⟨⟨HK.out.1.modJ m,h1,HK.out.2.2⟩,HM.out.trans (m.more λ_ _ q=>ze q)⟩
 clear hn HQ;cases bn
 .simp only[zr,yc] at q;have HE:=Ry q;clear q;go_wp2_with (go_at_call 215;refine O.out.mono ?_;rintro e D ⟨rfl,s,l⟩;obtain⟨y,o⟩:=V.out _ s l;clear s l)
  obtain⟨g,ah,ae⟩:=y;have aq:=Ry g;have u:=Ry o;have aj:=Ry λW hW=>Hp W F f P (ah.below hW);obtain⟨au,aw,_,_,_,H,_,_,_,_⟩:=g.at;have ad:=g.box.set 3 (ι (IntKind.i64.wrap (t.jg+f.jg)));have ag:zc [z] D (D.setCell ⟨z,3,none⟩ (ι (IntKind.i64.wrap (t.jg+f.jg)))):=zc.set _ _ _ _;have ab:R9 lo (kl p) D a (D.setCell ⟨z,3,none⟩ (ι (IntKind.i64.wrap (t.jg+f.jg)))) a:=R9.set a g.box g.low (zh (ze (zh rfl))) _ _;have N:=g.rebox (R':={t with jg:=IntKind.i64.wrap (t.jg+f.jg)}) ag (by simpa using ad) rfl rfl g.few.2.2;rw[HE.out.1] at N;have al:=Ry N;have ak:=Ry (u.out.trans ab);clear N ab ad ag g o ah ae;have ap:=IntWalk.i64_in;refine wp_region_noPanic ?_;refine oH (S:=λw'=>w'.cell? ⟨z,3,none⟩=some (ι t.jg)) (d:=11) (by kernel_rfl) H (λc=>?_);refine uk (i:=0) (v:=?v0) rfl (by kernel_rfl) (by kernel_rfl) (by kernel_rfl) (by kernel_rfl) (λ_ _ _ h=>h) (zh ⟨by rfl,?hy0⟩) c ?rest0
  case hy0=>
   intro X B;go_simp
   (try with_reducible rfl)
  refine uk (i:=1) (v:=?v1) rfl (by kernel_rfl) (by kernel_rfl) (by kernel_rfl) (by kernel_rfl) (λ_ _ _ h=>h) (zh ⟨by rfl,?hy1⟩) c ?rest1
  case hy1=>
   intro X B;go_simp
   (try with_reducible rfl)
  refine uk (i:=2) (v:=?v2) rfl (by kernel_rfl) (by kernel_rfl) (by kernel_rfl) (by kernel_rfl) (λ_ _ _ h=>h) (zh ⟨by rfl,?hy2⟩) c ?rest2
  case hy2=>
   intro X B;go_simp
   (try with_reducible rfl)
  refine uk (i:=3) (v:=?v3) rfl (by kernel_rfl) (by kernel_rfl) (by kernel_rfl) (by kernel_rfl) (λ_ _ _ h=>h) (zh ⟨by rfl,?hy3⟩) c ?rest3
  case hy3=>
   intro X B;go_simp
   (try with_reducible rfl)
  refine uk (i:=4) (v:=?v4) rfl (by kernel_rfl) (by kernel_rfl) (by kernel_rfl) (by kernel_rfl) (λ_ _ _ h=>h) (zh ⟨by rfl,?hy4⟩) c ?rest4
  case hy4=>
   intro X B;go_simp
   (try with_reducible rfl)
  refine uk (i:=5) (v:=?v5) rfl (by kernel_rfl) (by kernel_rfl) (by kernel_rfl) (by kernel_rfl) (λ_ _ _ h=>h) (zh ⟨by rfl,?hy5⟩) c ?rest5
  case hy5=>
   intro X B;go_simp
   (try with_reducible rfl)
  refine gX (i:=6) (by kernel_rfl) rfl (λK A=>?_);go_simp
  refine(aj.out _ (by exact(zI (zp _ _) 1))).mono ?_;rintro e I ⟨rfl,rfl⟩;refine A.out _ _ (λ_=>H) ?_;clear A K;refine uk (i:=7) (v:=?v7) rfl (by kernel_rfl) (by kernel_rfl) (by kernel_rfl) (by kernel_rfl) (λ_ _ _ h=>h) (zh ⟨by rfl,?hy7⟩) c ?rest7
  case hy7=>
   intro X B;go_simp
   (try with_reducible rfl)
  refine gX (i:=8) (by kernel_rfl) rfl (λK A=>?_);go_simp
  refine A.out _ _ (λ_=>H) ?_;clear A K;refine gX (i:=9) (by kernel_rfl) rfl (λK A=>?_);go_simp
  refine A.out _ _ (λ_=>H) ?_;clear A K;refine gX (i:=10) (by kernel_rfl) rfl (λK A=>?_);go_simp
  refine A.out _ _ (λ_=>H) ?_;clear A K;refine gX (i:=11) (by kernel_rfl) rfl (λK A=>?_);go_simp
  refine A.out _ _ (λhq=>z9 rfl hq) ?_;clear A K;refine oL (by kernel_rfl) ?_ _;refine NoPanic.normal ?_;have ai:Below (D.setCell ⟨z,3,none⟩ (ι (IntKind.i64.wrap (t.jg+f.jg)))).heap.size (D.setCell ⟨z,3,none⟩ (ι (IntKind.i64.wrap (t.jg+f.jg)))) (D.setCell ⟨z,3,none⟩ (ι (IntKind.i64.wrap (t.jg+f.jg)))).drew:=(by go_grown);have hf:=HE.out.2;go_wp2;go_ret;exact⟨by rw[←hf];rfl,a,E,al.out.below ai,ak.out.trans (R9.of a ai)⟩
 dsimp only at q;rcases Y:jM mr t p (zG f.head f.jd) with _|am;rw[Y] at q;cases q;obtain⟨R3,b3⟩:=am;simp only[Y] at q;have Z:=Ry λW (hW:RR lo W F f P)=>N2 W F f P hW;rw[LX] at Y;have af:=Ry λW (hl:lo<=W.heap.size) (hW:zY lo W a z t wd mr mx ⟨Q.rv,Q.tbs,Q.fv,E⟩)=>Eb W a z t R3 wd mr mx _ p _ _ _ b3 hW hl Y;generalize R0 f.head f.jd 0=r0 at *;generalize R0 f.head f.jd 1=r1 at *;generalize R0 f.head f.jd 2=r2 at *;clear Y;cases b3
 .simp only[zr,yc] at q;have HE:=Ry q;clear q;go_wp2_with (first|(go_at_call 215;refine O.out.mono ?_;rintro e D ⟨rfl,s,l⟩;obtain⟨y,o⟩:=V.out _ s l;clear s l;have x:=Ry y;have u:=Ry o;clear y o)|(go_at_call 216;refine(Z.out _ x.out.2.1).mono ?_;rintro e I ⟨rfl,j⟩)|(go_at_call 121;refine(af.out _ (by exact(show lo<=(I.alloc (.cells #[ι r0,ι r1,ι r2] 165)).heap.size by rw[World.size_alloc];have:=j.size;have:=u.out.size;omega)) (by exact(x.out.1.below j).below (by go_grown))).mono ?_;rintro e w4 ⟨rfl,r,U,T,L⟩))
  go_ret;have C:R9 lo (kl p) D a w4 r:=((R9.of a j).trans (R9.of a (show μ I (I.alloc (.cells #[ι r0,ι r1,ι r2] 165)) from(by go_grown)))).trans (L.more λ_ _ q=>zh q);exact⟨by rw[←HE.out.2];rfl,r,U,by rw[←HE.out.1];exact T,u.out.trans C⟩
 have an:Hid (vG mr p m R3 f=some (R',b)):=q;clear q;go_wp2_with (first|(go_at_call 215;refine O.out.mono ?_;rintro e D ⟨rfl,s,l⟩;obtain⟨y,o⟩:=V.out _ s l;clear s l;have x:=Ry y;have u:=Ry o;clear y o)|(go_at_call 216;refine(Z.out _ x.out.2.1).mono ?_;rintro e I ⟨rfl,j⟩)|(go_at_call 121;refine(af.out _ (by exact(show lo<=(I.alloc (.cells #[ι r0,ι r1,ι r2] 165)).heap.size by rw[World.size_alloc];have:=j.size;have:=u.out.size;omega)) (by exact(x.out.1.below j).below (by go_grown))).mono ?_;rintro e w4 ⟨rfl,r,U,T,L⟩))
 have M:μ I (I.alloc (.cells #[ι r0,ι r1,ι r2] 165)):=(by go_grown);have C:R9 lo (kl p) D a w4 r:=((R9.of a j).trans (R9.of a M)).trans (L.more λ_ _ q=>zh q);have ac:=((x.out.2.1.below j).below M).add L x.out.2.2;go_roundg m
 case measure=>omega
 exact⟨R3,f,r,U,an,⟨T,ac.1,ac.2⟩,u.out.trans C⟩
end
section
open Go.Proofs.Tryz
variable {lo:Nat}{w:World}
structure xe where
 tv:Value
 pv:Value
 nv:Value
 vv:Value
 ntv:Value
 vps:List j6
 nbs:List Nat
def qZ(r:zs)(P:xe):List Value:=[ι r.qh,ι r.vars,ι r.head.pred,P.tv,P.pv,P.nv,P.vv,P.ntv]
def vW(wd:Nat)(vs:List yF)(ps:List j6):List Value:=(List.zipWith (gI wd) vs ps).flatten
structure uo (lo:Nat) (w:World) (own:Nat->zn) (k wd:Nat) (W:yb) (P:xe):Prop where
 rule:vx lo w P.tv P.pv P.nv W.rule
 qm:w.ownsRow lo 301 6 P.vv W.qm.length (vW wd W.qm P.vps)
 vlen:P.vps.length=W.qm.length
 view:∀i (_:i<W.qm.length) (_:i<P.vps.length),vE lo w own k i W.qm[i] P.vps[i]
 vrole:∀b,P.vv.ownBlock=some b->own b=(k+1,0,9)
 qw:w.ownsRow lo 162 1 P.ntv W.rule.qw.length (RO P.nbs)
 nlen:P.nbs.length=W.rule.qw.length
 few:W.qm.length<=1000
def EM(wd:Nat):∀(vs:List yF) (ps:List j6) (i:Nat) (b:i<vs.length) (a:i<ps.length),(vW wd vs ps)[i*6]?=some (ι (vs[i].lit.pred:Nat))/\(vW wd vs ps)[i*6+1]?=some ps[i].tv/\(vW wd vs ps)[i*6+2]?=some (ι wd)/\(vW wd vs ps)[i*6+3]?=some (pt ps[i].bb)/\(vW wd vs ps)[i*6+4]?=some (pt ps[i].fb)/\(vW wd vs ps)[i*6+5]?=some (pt ps[i].ab)
 |[],_,i,b,_=>by simp at b
 |v::vs,[],i,_,a=>by simp at a
 |v::vs,p::ps,0,_,_=>by simp[vW,gI]
 |v::vs,p::ps,i+1,b,a=>by
  have:=EM wd vs ps i (by simpa using b) (by simpa using a);simp only[vW,mt,mR] at this ⊢;rw[show(i+1)*6=i*6+6 from by omega];have c:i*6+6=(gI wd v p).length+i*6:=by simp[gI];omega
  rw[c];simp only[Nat.add_assoc,d9 (Nat.le_add_right _ _),eh];simpa using this
def uo.viewAt{own:Nat->zn}{k wd:Nat}{W:yb}{P:xe}(h:uo lo w own k wd W P)(i:Nat)(l:i<W.qm.length)(n:i<P.vps.length):∃g a,P.vv=.slice (some ⟨g,0,none⟩) W.qm.length a/\g<w.heap.size/\w.cell? ⟨g,i*6,none⟩=some (ι (W.qm[i].lit.pred:Nat))/\w.cell? ⟨g,i*6+1,none⟩=some P.vps[i].tv/\w.cell? ⟨g,i*6+2,none⟩=some (ι wd)/\w.cell? ⟨g,i*6+3,none⟩=some (.pointer (some ⟨P.vps[i].bb,0,none⟩))/\w.cell? ⟨g,i*6+4,none⟩=some (.pointer (some ⟨P.vps[i].fb,0,none⟩))/\w.cell? ⟨g,i*6+5,none⟩=some (.pointer (some ⟨P.vps[i].ab,0,none⟩)):=by
 obtain⟨g,a,j,_,e,b⟩:=yw h.qm (by omega);obtain⟨p,m,d,c,f,o⟩:=EM wd W.qm P.vps i l n;exact⟨g,a,j,e,b _ _ p,b _ _ m,b _ _ d,b _ _ c,b _ _ f,b _ _ o⟩
def eY{w:World}{own:Nat->zn}{S:zn->Prop}:∀(d:List zj) (bs:List Nat),bs.length=d.length->(∀i (g:i<d.length) (j:i<bs.length),∃ρ,S ρ/\xa lo w own ρ bs[i] d[i])->∃e:List (Nat×List Nat),e.map (·.1)=bs/\(∀i (g:i<d.length) (j:i<e.length),ya lo w e[i].1 d[i] e[i].2)/\∀x∈e,∀b∈x.2,S (own b)
 |[],[],_,_=>⟨[],rfl,λi h=>by simp at h,λx f=>by simp at f⟩
 |[],b::bs,h,_=>by simp at h
 |T::d,[],h,_=>by simp at h
 |T::d,b::bs,h,l=>by
  obtain⟨ρ,n,o,g,j⟩:=l 0 (by simp) (by simp);obtain⟨e,q,p,m⟩:=eY d bs (by simpa using h) λi a c=>by
   have:=l (i+1) (by simpa using a) (by simpa using c);simpa using this
  refine⟨(b,o)::e,by simp[q],λi a c=>?_,λx f y k=>?_⟩
  .match i,a,c with
   |0,_,_=>exact g
   |i+1,a,c=>exact p i (by simpa using a) (by simpa using c)
  .rcases zy.1 f with rfl|f
   .rw[j y k];exact n
   .exact m x f y k
def mv(lo:Nat)(w:World)(own:Nat->zn)(p:Nat)(J:z7)(e:Ending)(w':World):Prop:=∃P,e=ε (.agg (uw J P).toArray)/\jG lo w' J P/\ny own P p/\μ w w'
def O0{J:z7}{P:x9}(h:jG lo w J P):∀u∈uw J P,u.oneCell'=true:=by
 intro u a;obtain⟨l,q,b⟩:=h.head.qy;obtain⟨n,i,g⟩:=zq h.ja;obtain⟨m,k,c⟩:=zq h.bars;simp only[uw,zW,zy,zE,lY,or_false] at a;rcases a with ((((((a|a)|⟨_,_,a⟩)|a)|⟨_,_,a⟩)|⟨_,_,a⟩)|a)
 rcases a with rfl|rfl|rfl|rfl|rfl;rfl;rw[b];rfl;rfl;rw[g];rfl;rw[c];rfl;obtain⟨p,f,rfl⟩:=uO a;have j:=h.hlen;obtain⟨o,d,e⟩:=zq (h.jf p (by omega) f).1;rw[e];rfl;subst a;rfl;subst a;rfl;subst a;rfl;subst a;rfl;rcases a with rfl|rfl<;>rfl
def qR(bs:List Nat)(k:Nat):List Value:=(bs.take k).map pt++List.replicate (bs.length-k) (.pointer none)
def F0(bs:List Nat)(k:Nat)(a:k<=bs.length):(qR bs k).length=bs.length:=by simp[qR];omega
def FF(bs:List Nat)(k:Nat)(b:k<bs.length):(qR bs k).set k (.pointer (some ⟨bs[k],0,none⟩))=qR bs (k+1):=by
 obtain⟨m,a⟩:∃m,bs.length-k=m+1:=⟨bs.length-k-1,by omega⟩;unfold qR;rw[fm _ _ (by simp;omega),xY,qG,fF (by omega),jv,a,re,nZ,yP b,vg,show bs.length-(k+1)=m from by omega,kz];rfl
def C3(bs:List Nat):qR bs bs.length=RO bs:=by simp[qR,RO]
def Rr:(prog.info? 162).map (λi=>(i.zero,i.size,i.bytes))=some (some (.pointer none),1,8):=by kernel_rfl
def EO{W':World}{own:Nat->zn}{k wd p pb:Nat}{W:yb}{P:xe}{qc qw:List zj}{bs:List Nat}(d:uo lo w own k wd W P)(D:lo<=w.heap.size)(O:qc.length=W.qm.length)(z:bs.length=qc.length)(v:∀i (t:i<qc.length) (o:i<bs.length),∃ρ,ρ≠(0,p,0)/\xa lo w own ρ bs[i] qc[i])(n:qw.length=W.rule.qw.length)(u:∀i (t:i<qw.length) (o:i<P.nbs.length),∃ρ,ρ≠(0,p,0)/\xa lo w own ρ P.nbs[i] qw[i])(f:μ w W')(j:W'.ownsRow w.heap.size 162 1 (.slice (some ⟨pb,0,none⟩) qc.length qc.length) qc.length (RO bs)):
  Calls prog 214 #[kQ W.rule P.tv P.pv P.nv,.slice (some ⟨pb,0,none⟩) qc.length qc.length,P.ntv] W' λe B=>mv lo W' own p (xB W.rule qc qw) e B:=by
 obtain⟨l,C,L,E⟩:=eY qc bs z v;obtain⟨m,y,M,G⟩:=eY qw P.nbs (by rw[d.nlen,n]) u;have g:l.length=qc.length:=by rw[←z,←C,xY]
 have h:m.length=qw.length:=by rw[n,←d.nlen,←y,xY]
 have N:RO bs=l.map λx=>T1 x.1:=by rw[←C];simp[RO];exact λ_ _ _=>rfl
 have H:RO P.nbs=m.map λx=>T1 x.1:=by rw[←y];simp[RO];exact λ_ _ _=>rfl
 have A:=d.few;have F:=d.rule.qw.len;have t:mS w.heap.size lo W' (.slice (some ⟨pb,0,none⟩) qc.length qc.length) qc l:=⟨by rw[←N];exact j,g,λi a b=>(L i a b).below f,by omega⟩;have o:mS lo lo W' P.ntv qw m:=⟨by rw[n,←H];exact zB d.qw f,h,λi a b=>(M i a b).below f,by omega⟩;refine(Jr W' W.rule P.tv P.pv P.nv _ _ qc qw l m (d.rule.below f) t o n (by have:=f.size;omega)).mono ?_;rintro e B ⟨I,rfl,J,K,q,r⟩;refine⟨I,rfl,J,⟨λx s b c=>E x (by rw[←K];exact s) b c,λx s b c=>G x.2 (by rw[←q];exact List.mem_map_of_mem s) b c⟩,r⟩
def wg{w':World}{b:Nat}(h:uE w b)(d:μ w w'):uE w' b:=by obtain⟨c,e,a⟩:=h;exact⟨c,e.below d,a⟩
def D8{b b' o:Nat}{u:Value}(h:uE w b)(a:b≠b'):uE (w.setCell ⟨b',o,none⟩ u) b:=by obtain⟨c,e,d⟩:=h;exact⟨c,e.set_ne a _ _,d⟩
structure WC (w:World) (gw o:Nat) (r:zs) (P:xe):Prop where
 lt:gw<w.heap.size
 free:∀q,w.frozen? ⟨gw,q,none⟩=false
 c0:w.cell? ⟨gw,o,none⟩=some (ι r.qh)
 c1:w.cell? ⟨gw,o+1,none⟩=some (ι r.vars)
 c2:w.cell? ⟨gw,o+2,none⟩=some (ι r.head.pred)
 c3:w.cell? ⟨gw,o+3,none⟩=some P.tv
 c4:w.cell? ⟨gw,o+4,none⟩=some P.pv
 c5:w.cell? ⟨gw,o+5,none⟩=some P.nv
 c6:w.cell? ⟨gw,o+6,none⟩=some P.vv
 c7:w.cell? ⟨gw,o+7,none⟩=some P.ntv
def WC.below{w':World}{a o:Nat}{r:zs}{P:xe}(h:WC w a o r P)(b:μ w w'):WC w' a o r P:=by
 have e:=λq=>b.cell (p:=⟨a,q,none⟩) h.lt;exact⟨by have:=b.size;have:=h.lt;omega,λq=>(b.frozen (p:=⟨a,q,none⟩) h.lt).trans (h.free q),(e _).trans h.c0,(e _).trans h.c1,(e _).trans h.c2,(e _).trans h.c3,(e _).trans h.c4,(e _).trans h.c5,(e _).trans h.c6,(e _).trans h.c7⟩
def tE{b:Nat}{J:z7}{P:x9}{d:World}(a:jG lo d J P)(h:uE w b):(storeCells ⟨b,0,none⟩ (uw J P)).run prog w=.ok () (gy w b (uw J P)):=by
 have e:=pw J P a.hlen.1 a.jl;exact run_storeCells_cells (P:=prog) b 0 (uw J P) 0 w (λj c=>(h.there j (by omega)).1) (λj c=>(h.there j (by omega)).2) (O0 a)
attribute [local go_sem] su
def Lm(w:World)(own:Nat->zn)(k wd p E o:Nat)(W:yb)(P:xe)(qw:List zj)(h:uo lo w own k wd W P)(hc:WC w E o W.rule P)(aQ:lo<=w.heap.size)(hn:qw.length=W.rule.qw.length)(ao:∀i (h1:i<qw.length) (h2:i<P.nbs.length),∃ρ,ρ≠(0,p,0)/\xa lo w own ρ P.nbs[i] qw[i]):
  Calls prog 207 #[.pointer (some ⟨E,o,none⟩)] w λe r=>mv lo w own p (xB W.rule (W.qm.map (·.all)) qw) e r:=by
 obtain⟨i0,hi,aU,aM,aR⟩:=info_parts Rr;have M:Hid (∀V pb,μ w V->V.ownsRow w.heap.size 162 1 (.slice (some ⟨pb,0,none⟩) W.qm.length W.qm.length) W.qm.length (RO (P.vps.map (·.ab)))->Calls prog 214 #[kQ W.rule P.tv P.pv P.nv,.slice (some ⟨pb,0,none⟩) W.qm.length W.qm.length,P.ntv] V λe r=>mv lo V own p (xB W.rule (W.qm.map (·.all)) qw) e r):=λV pb hB c=>by
  have q:=EO (p:=p) (pb:=pb) (qc:=W.qm.map (·.all)) (bs:=P.vps.map (·.ab)) (qw:=qw) (W':=V) h aQ (by simp) (by simp[h.vlen]) (λi h1 h2=>⟨(k+1,i,2),by simp,by simp only[xV];exact(h.view i (by simpa using h1) (by simpa using h2)).all⟩) hn ao hB (by simpa using c);simpa using q
 have aC:=Ry λi a b=>h.viewAt i a b;have aJ:=Ry λi a b=>(h.view i a b).qg.qy;have X:=Ry h.vlen;have aW:=h.few;obtain⟨bf,aV,S⟩:=zq h.qm;obtain⟨ab,D,ai⟩:=h.rule.head.qy;obtain⟨ac,t,ag⟩:=h.rule.qc.qy;obtain⟨Q,C,af⟩:=h.rule.qw.qy;obtain⟨Z,x,O⟩:=zq h.qw;have HW:=Ry hc;have a4:=Ry S;have B:Hid (P.tv=.slice ab W.rule.head.qg.length D/\P.pv=.slice ac W.rule.qc.length t/\P.nv=.slice Q W.rule.qw.length C/\P.ntv=.slice Z W.rule.qw.length x):=⟨ai,ag,af,O⟩;have ar:=λW0:World=>run_make (P:=prog) (w:=W0) 150 162 i0 _ underlying150 hi aU .i64 .i64 (W.qm.length:Int) (W.qm.length:Int) (by omega) (Int.le_refl _) (by rw[aR];omega) (by omega);rw[aM] at ar;have al:=hc.c6;rw[S] at al;have a9:=hc.lt;have a7:=hc.free;clear h hc ao S ai ag af O;go_enter func207,ntmps207;go_upto_region 3 with fail
 have a0:μ w ((w.alloc (.cells (bj 0 0 0 none none 0 0 0 0).toArray 310)).alloc (.cells (madeCells #[.pointer none] W.qm.length) 162)):=(by go_grown);have c:=pJ (w.alloc (.cells (bj 0 0 0 none none 0 0 0 0).toArray 310)) W.qm.length 162 (.pointer none) (by unfold maxLen;omega);rw[World.size_alloc] at c;have ad:uE ((w.alloc (.cells (bj 0 0 0 none none 0 0 0 0).toArray 310)).alloc (.cells (madeCells #[.pointer none] W.qm.length) 162)) w.heap.size:=ek _ _ _ _ _ _ _ _ _ _ _;have ax:(P.vps.map (·.ab)).length=W.qm.length:=by simp[X.out]
 have an:Hid (((w.alloc (.cells (bj 0 0 0 none none 0 0 0 0).toArray 310)).alloc (.cells (madeCells #[.pointer none] W.qm.length) 162)).ownsRow w.heap.size 162 1 (.slice (some ⟨w.heap.size+1,0,none⟩) W.qm.length W.qm.length) W.qm.length (qR (P.vps.map (·.ab)) 0)):=by
  have e:qR (P.vps.map (·.ab)) 0=List.replicate W.qm.length (.pointer none):=by simp[qR,X.out]
  rw[Hid,e];exact yk c (by omega)
 have R:=Ry ax;have aS:Hid (∀i (h1:i<P.vps.length) (h2:i<(P.vps.map (·.ab)).length),(P.vps.map (·.ab))[i]=P.vps[i].ab):=λi a b=>by simp
 clear c ax al a9 a7 ar;generalize (w.alloc (.cells (bj 0 0 0 none none 0 0 0 0).toArray 310)).alloc (.cells (madeCells #[.pointer none] W.qm.length) 162)=w1 at *;generalize P.vps.map (·.ab)=N at *;have z:=Ry ad;clear ad;go_loopw [17] (λaL wr=>∃m:Nat,m<=W.qm.length/\aL=ι m/\μ w wr/\Hid (uE wr w.heap.size)/\Hid (wr.ownsRow w.heap.size 162 1 (.slice (some ⟨w.heap.size+1,0,none⟩) W.qm.length W.qm.length) W.qm.length (qR N m))) (λi _=>W.qm.length-(intOf i).toNat);exact⟨0,zv _,rfl,a0,z,an⟩;clear an z a0;obtain⟨m,hm,rfl,d,z,HR⟩:=hrel;have aX:=d.size;by_cases A:m<W.qm.length
 .have T:m<P.vps.length:=by rw[X.out];exact A
  have aj:m<N.length:=by rw[R.out];exact A
  obtain⟨gv,aA,n,s,q0,q1,q2,q3,q4,q5⟩:=aC.out m A T;rw[a4.out] at n;simp only[Value.slice.injEq] at n;have aG:=n.1;clear n;subst aG;obtain⟨aI,ah,hq⟩:=aJ.out m A T;rw[hq] at q1;have x0:=zl d s q0;have x1:=zl d s q1;have x2:=zl d s q2;have x3:=zl d s q3;have x4:=zl d s q4;have x5:=zl d s q5;have bk:gv<wr.heap.size:=by omega
  have c:=HR.out;have a2:=F0 N m (by omega);obtain⟨sx,bi⟩:∃sx,wr.cell? ⟨w.heap.size+1,m,none⟩=some sx:=by
   obtain⟨g',aY,az,_,_,av⟩:=yw c (by omega);simp only[Value.slice.injEq,zr,Addr.mk.injEq,and_true] at az;have e:=az.1;subst e;exact⟨_,av m _ (yi (by omega))⟩
  have bh:=uH c;have bc:w.heap.size+1<wr.heap.size:=yA c rfl;have a1:Hid ((qR N m).set m (.pointer (some ⟨P.vps[m].ab,0,none⟩))=qR N (m+1)):=by
   have q:=FF N m aj;rw[aS.out m T aj] at q;exact q
  have l:Below (wr.setCell ⟨w.heap.size+1,m,none⟩ (.pointer (some ⟨P.vps[m].ab,0,none⟩))).heap.size (wr.setCell ⟨w.heap.size+1,m,none⟩ (.pointer (some ⟨P.vps[m].ab,0,none⟩))) ((wr.setCell ⟨w.heap.size+1,m,none⟩ (.pointer (some ⟨P.vps[m].ab,0,none⟩))).alloc (.cells #[ι (W.qm[m].lit.pred:Nat),.slice aI W.qm[m].lit.qg.length ah,ι wd,.pointer (some ⟨P.vps[m].bb,0,none⟩),.pointer (some ⟨P.vps[m].fb,0,none⟩),.pointer (some ⟨P.vps[m].ab,0,none⟩)] 301)):=(by go_grown);have g:=wg (D8 (o:=m) (u:=.pointer (some ⟨P.vps[m].ab,0,none⟩)) z.out (show w.heap.size≠w.heap.size+1 by omega)) l;have j:=uj c m (by omega) (.pointer (some ⟨P.vps[m].ab,0,none⟩));rw[a1.out] at j;have aq:=zB j l;have aB:=R5 (d.setCell (by simp) _) l;clear j;have ba:(m:Int)<(W.qm.length:Int):=by omega
  clear q0 q1 q2 q3 q4 q5 a2 hq a1;generalize W.qm[m].lit.pred=vp at *;generalize W.qm[m].lit.qg.length=vt at *;generalize P.vps[m].bb=bb at *;generalize P.vps[m].fb=bd at *;generalize P.vps[m].ab=bg at *;go_wp2;exact⟨⟨m+1,by omega,by go_num,aB,g,aq⟩,by simp[intOf];omega⟩
 obtain rfl:m=W.qm.length:=by omega
 have a6:Hid (wr.ownsRow w.heap.size 162 1 (.slice (some ⟨w.heap.size+1,0,none⟩) W.qm.length W.qm.length) W.qm.length (RO N)):=by
  have q:=HR.out;rw[←R.out,C3,R.out] at q;exact q
 have aO:=HW.out.below d;obtain⟨t1,t2,t3,t4⟩:=B.out;obtain⟨be,aT,d0,d1,d2,d3,d4,d5,d6,d7⟩:=aO;rw[t1] at d3;rw[t2] at d4;rw[t3] at d5;rw[t4] at d7;have f:E≠w.heap.size:=by have:=HW.out.lt;omega
 have aP:Hid (∀W0,μ wr W0->Calls prog 214 #[.agg #[ι W.rule.qh,ι W.rule.vars,ι W.rule.head.pred,.slice ab W.rule.head.qg.length D,.slice ac W.rule.qc.length t,.slice Q W.rule.qw.length C],.slice (some ⟨w.heap.size+1,0,none⟩) W.qm.length W.qm.length,.slice Z W.rule.qw.length x] W0 λe r=>mv lo W0 own p (xB W.rule (W.qm.map (·.all)) qw) e r):=λW0 am=>by
  have q:=M.out W0 (w.heap.size+1) (R5 d am) (zB a6.out am);rw[kQ,t1,t2,t3,t4] at q;exact q
 clear t1 t2 t3 t4 d6 M A hm;generalize ae:xB W.rule (W.qm.map (·.all)) qw=J at *;have ak:=Ry ae;clear ae;go_wp2;go_region_held3 (λr=>r.cell? ⟨E,o,none⟩=some (ι W.rule.qh)/\r.cell? ⟨E,o+1,none⟩=some (ι W.rule.vars)/\r.cell? ⟨E,o+2,none⟩=some (ι W.rule.head.pred)/\r.cell? ⟨E,o+3,none⟩=some (.slice ab W.rule.head.qg.length D)/\r.cell? ⟨E,o+4,none⟩=some (.slice ac W.rule.qc.length t)/\r.cell? ⟨E,o+5,none⟩=some (.slice Q W.rule.qw.length C)/\r.cell? ⟨E,o+7,none⟩=some (.slice Z W.rule.qw.length x)) (first|(exact⟨U,aa,Y,I,G,K,H⟩)|(exact⟨(kp _ _ _ _ _ f).trans U,(kp _ _ _ _ _ f).trans aa,(kp _ _ _ _ _ f).trans Y,(kp _ _ _ _ _ f).trans I,(kp _ _ _ _ _ f).trans G,(kp _ _ _ _ _ f).trans K,(kp _ _ _ _ _ f).trans H⟩)|go_keep|(go_simp;done)) (first|(go_at_call 214;refine(aP.out _ (by exact(by go_grown))).mono ?_;rintro e w2 ⟨PJ,rfl,y,aw,aK⟩;have F:μ wr w2:=(zM (by go_grown) aK (zf _));have a5:=HW.out.below (R5 d F);obtain⟨aZ,ay,U,aa,Y,I,G,K,_,H⟩:=a5;rw[B.out.1] at I;rw[B.out.2.1] at G;rw[B.out.2.2.1] at K;rw[B.out.2.2.2] at H;have g:=wg z.out F;have aE:=tE y g;have L:=pw J PJ y.hlen.1 y.jl;have aH:=Ry y;have aD:=Ry aw;clear y aw;generalize ap:uw J PJ=cs at *;have aN:=Ry ap;clear ap))
 have aF:=p8 (cs:=cs) g L;have au:=rW w2 w.heap.size cs;have a8:=aH.out.saveJ au (RL.box g.choose_spec.1);have a3:=(R5 d F).trans (au.below (by simp) (by have:=F.size;omega));clear aE d0 d1 d2 d3 d4 d5 d7 U aa Y I G K H aT ay;generalize gy w2 w.heap.size cs=w5 at *;go_wp2
 (try simp only[Exit.inBlock,Exit.then])
 exact zO (v:=.agg cs.toArray) (tu rfl _ _ _ _ _ (by rfl) (run_loadVar_mid w5 w.heap.size 0 310 cs _ aF.range underlying310 rfl (by rw[L];exact Re))) rfl ⟨PJ,by rw[ak.out,aN.out],by rw[ak.out];exact a8,aD.out,a3⟩
end
section
open Go.Proofs.Tryz
variable {lo:Nat}
def jW(ps:List j6)(place:Nat):List Nat:=ps.zipIdx.map λx=>if x.2<place then x.1.bb else if x.2=place then x.1.fb else x.1.ab
def DA(vs:List yF)(a:Nat):(RN vs a).length=vs.length:=by simp[RN]
def Ow{w:World}{own:Nat->zn}{k wd p:Nat}{W:yb}{P:xe}(h:uo lo w own k wd W P)(a i:Nat)(c:i<W.qm.length)(d:i<P.vps.length)(f:i<(RN W.qm a).length)(e:i<(jW P.vps a).length):∃ρ,ρ≠(0,p,0)/\xa lo w own ρ (jW P.vps a)[i] (RN W.qm a)[i]:=by
 have b:=h.view i c d;simp only[jW,RN,xV,List.getElem_zipIdx,vn];split;exact⟨_,by simp,b.before⟩;split;exact⟨_,by simp,b.qp⟩;exact⟨_,by simp,b.all⟩
attribute [local go_sem] su
def MK(w:World)(own:Nat->zn)(k wd p I o d:Nat)(W:yb)(P:xe)(qw:List zj)(h:uo lo w own k wd W P)(hc:WC w I o W.rule P)(aZ:lo<=w.heap.size)(aH:d<=1000000)(hn:qw.length=W.rule.qw.length)(av:∀i (h1:i<qw.length) (h2:i<P.nbs.length),∃ρ,ρ≠(0,p,0)/\xa lo w own ρ P.nbs[i] qw[i]):
  Calls prog 210 #[.pointer (some ⟨I,o,none⟩),ι d] w λe t=>mv lo w own p (xB W.rule (RN W.qm d) qw) e t:=by
 obtain⟨i0,hi,bd,aU,ba⟩:=info_parts Rr;have R:Hid (∀W' pb,μ w W'->W'.ownsRow w.heap.size 162 1 (.slice (some ⟨pb,0,none⟩) W.qm.length W.qm.length) W.qm.length (RO (jW P.vps d))->Calls prog 214 #[kQ W.rule P.tv P.pv P.nv,.slice (some ⟨pb,0,none⟩) W.qm.length W.qm.length,P.ntv] W' λe t=>mv lo W' own p (xB W.rule (RN W.qm d) qw) e t):=λW' pb hB c=>by
  have q:=EO (p:=p) (pb:=pb) (qc:=RN W.qm d) (bs:=jW P.vps d) (qw:=qw) (W':=W') h aZ (by simp[RN]) (by simp[jW,RN,h.vlen]) (λi h1 h2=>Ow h d i (by simpa [RN] using h1) (by simpa [jW] using h2) h1 h2) hn av hB (by rw[DA];exact c);rw[DA] at q;exact q
 have aI:=Ry λi a b=>h.viewAt i a b;have aR:=Ry λi a b=>(h.view i a b).qg.qy;have ac:=Ry h.vlen;have bf:=h.few;obtain⟨bn,be,Y⟩:=zq h.qm;obtain⟨ag,H,an⟩:=h.rule.head.qy;obtain⟨ah,y,al⟩:=h.rule.qc.qy;obtain⟨U,F,ak⟩:=h.rule.qw.qy;obtain⟨ae,z,T⟩:=zq h.qw;have HW:=Ry hc;have a9:=Ry Y;have E:Hid (P.tv=.slice ag W.rule.head.qg.length H/\P.pv=.slice ah W.rule.qc.length y/\P.nv=.slice U W.rule.qw.length F/\P.ntv=.slice ae W.rule.qw.length z):=⟨an,al,ak,T⟩;have ax:=λW0:World=>run_make (P:=prog) (w:=W0) 150 162 i0 _ underlying150 hi bd .i64 .i64 (W.qm.length:Int) (W.qm.length:Int) (by omega) (Int.le_refl _) (by rw[ba];omega) (by omega);rw[aU] at ax;have aq:=hc.c6;rw[Y] at aq;have aF:=hc.lt;have aD:=hc.free;clear h hc av Y an al ak T;go_enter func210,ntmps210;go_upto_region 3 with fail
 have a4:μ w ((w.alloc (.cells (bj 0 0 0 none none 0 0 0 0).toArray 310)).alloc (.cells (madeCells #[.pointer none] W.qm.length) 162)):=(by go_grown);have c:=pJ (w.alloc (.cells (bj 0 0 0 none none 0 0 0 0).toArray 310)) W.qm.length 162 (.pointer none) (by unfold maxLen;omega);rw[World.size_alloc] at c;have ai:uE ((w.alloc (.cells (bj 0 0 0 none none 0 0 0 0).toArray 310)).alloc (.cells (madeCells #[.pointer none] W.qm.length) 162)) w.heap.size:=ek _ _ _ _ _ _ _ _ _ _ _;have a1:(jW P.vps d).length=W.qm.length:=by simp[jW,ac.out]
 have au:Hid (((w.alloc (.cells (bj 0 0 0 none none 0 0 0 0).toArray 310)).alloc (.cells (madeCells #[.pointer none] W.qm.length) 162)).ownsRow w.heap.size 162 1 (.slice (some ⟨w.heap.size+1,0,none⟩) W.qm.length W.qm.length) W.qm.length (qR (jW P.vps d) 0)):=by
  have e:qR (jW P.vps d) 0=List.replicate W.qm.length (.pointer none):=by simp[qR,jW,ac.out]
  rw[Hid,e];exact yk c (by omega)
 have V:=Ry a1;have bb:Hid (∀i (h1:i<P.vps.length) (h2:i<(jW P.vps d).length),(jW P.vps d)[i]=if i<d then P.vps[i].bb else if i=d then P.vps[i].fb else P.vps[i].ab):=λi a b=>by simp[jW]
 clear c a1 aq aF aD ax;generalize (w.alloc (.cells (bj 0 0 0 none none 0 0 0 0).toArray 310)).alloc (.cells (madeCells #[.pointer none] W.qm.length) 162)=w1 at *;generalize jW P.vps d=S at *;have B:=Ry ai;clear ai;go_loopw [19] (λaT wr=>∃m:Nat,m<=W.qm.length/\aT=ι m/\μ w wr/\Hid (uE wr w.heap.size)/\Hid (wr.ownsRow w.heap.size 162 1 (.slice (some ⟨w.heap.size+1,0,none⟩) W.qm.length W.qm.length) W.qm.length (qR S m))) (λi _=>W.qm.length-(intOf i).toNat);exact⟨0,zv _,rfl,a4,B,au⟩;clear au B a4;obtain⟨m,hm,rfl,f,B,HR⟩:=hrel;have bg:=f.size;by_cases D:m<W.qm.length
 .have aa:m<P.vps.length:=by rw[ac.out];exact D
  have ao:m<S.length:=by rw[V.out];exact D
  obtain⟨gv,aG,r,x,q0,q1,q2,q3,q4,q5⟩:=aI.out m D aa;rw[a9.out] at r;simp only[Value.slice.injEq] at r;have aM:=r.1;clear r;subst aM;obtain⟨aO,am,hq⟩:=aR.out m D aa;rw[hq] at q1;have x0:=zl f x q0;have x1:=zl f x q1;have x2:=zl f x q2;have x3:=zl f x q3;have x4:=zl f x q4;have x5:=zl f x q5;have br:gv<wr.heap.size:=by omega
  have c:=HR.out;have a6:=F0 S m (by omega);obtain⟨sx,bp⟩:∃sx,wr.cell? ⟨w.heap.size+1,m,none⟩=some sx:=by
   obtain⟨g',bh,a3,_,_,az⟩:=yw c (by omega);simp only[Value.slice.injEq,zr,Addr.mk.injEq,and_true] at a3;have e:=a3.1;subst e;exact⟨_,az m _ (yi (by omega))⟩
  have bo:=uH c;have aH:w.heap.size+1<wr.heap.size:=yA c rfl;obtain⟨G,Z⟩:∃G,G=(if m<d then P.vps[m].bb else if m=d then P.vps[m].fb else P.vps[m].ab):=⟨_,rfl⟩;have a5:Hid ((qR S m).set m ((π G))=qR S (m+1)):=by
   have q:=FF S m ao;rw[bb.out m aa ao,←Z] at q;exact q
  have n:Below (wr.setCell ⟨w.heap.size+1,m,none⟩ ((π G))).heap.size (wr.setCell ⟨w.heap.size+1,m,none⟩ ((π G))) ((wr.setCell ⟨w.heap.size+1,m,none⟩ ((π G))).alloc (.cells #[ι (W.qm[m].lit.pred:Nat),.slice aO W.qm[m].lit.qg.length am,ι wd,.pointer (some ⟨P.vps[m].bb,0,none⟩),.pointer (some ⟨P.vps[m].fb,0,none⟩),.pointer (some ⟨P.vps[m].ab,0,none⟩)] 301)):=(by go_grown);have j:=wg (D8 (o:=m) (u:=(π G)) B.out (show w.heap.size≠w.heap.size+1 by omega)) n;have l:=uj c m (by omega) ((π G));rw[a5.out] at l;have C:=zB l n;have X:=R5 (f.setCell (by simp) _) n;clear l;have bk:(m:Int)<(W.qm.length:Int):=by omega
  clear q0 q1 q2 q3 q4 q5 a6 hq a5;generalize W.qm[m].lit.pred=vp at *;generalize W.qm[m].lit.qg.length=vt at *;generalize P.vps[m].bb=a8 at *;generalize P.vps[m].fb=aQ at *;generalize P.vps[m].ab=aX at *;have s:=Ry Z;clear Z;by_cases g1:m<d
  .have aC:(m:Int)<(d:Int):=by omega
   obtain rfl:G=a8:=by rw[s.out,zb g1]
   clear s;go_wp2;exact⟨⟨m+1,by omega,by go_num,X,j,C⟩,by simp[intOf];omega⟩
  have aC:¬(m:Int)<(d:Int):=by omega
  by_cases g2:m=d
  .have aP:((m:Int) == (d:Int))=true:=by rw[beq_iff_eq];omega
   obtain rfl:G=aQ:=by rw[s.out,za g1,zb g2]
   have bq:=Ry g2;clear s g2;go_wp2;exact⟨⟨m+1,by omega,by go_num,X,j,C⟩,by simp[intOf];omega⟩
  have aP:((m:Int) == (d:Int))=false:=by rw[beq_eq_false_iff_ne];omega
  obtain rfl:G=aX:=by rw[s.out,za g1,za g2]
  clear s;go_wp2;exact⟨⟨m+1,by omega,by go_num,X,j,C⟩,by simp[intOf];omega⟩
 obtain rfl:m=W.qm.length:=by omega
 have aB:Hid (wr.ownsRow w.heap.size 162 1 (.slice (some ⟨w.heap.size+1,0,none⟩) W.qm.length W.qm.length) W.qm.length (RO S)):=by
  have q:=HR.out;rw[←V.out,C3,V.out] at q;exact q
 have aW:=HW.out.below f;obtain⟨t1,t2,t3,t4⟩:=E.out;obtain⟨bm,bc,d0,d1,d2,d3,d4,d5,d6,d7⟩:=aW;rw[t1] at d3;rw[t2] at d4;rw[t3] at d5;rw[t4] at d7;have g:I≠w.heap.size:=by have:=HW.out.lt;omega
 have aY:Hid (∀W0,μ wr W0->Calls prog 214 #[.agg #[ι W.rule.qh,ι W.rule.vars,ι W.rule.head.pred,.slice ag W.rule.head.qg.length H,.slice ah W.rule.qc.length y,.slice U W.rule.qw.length F],.slice (some ⟨w.heap.size+1,0,none⟩) W.qm.length W.qm.length,.slice ae W.rule.qw.length z] W0 λe t=>mv lo W0 own p (xB W.rule (RN W.qm d) qw) e t):=λW0 ar=>by
  have q:=R.out W0 (w.heap.size+1) (R5 f ar) (zB aB.out ar);rw[kQ,t1,t2,t3,t4] at q;exact q
 clear t1 t2 t3 t4 d6 R D hm;generalize aj:xB W.rule (RN W.qm d) qw=J at *;have ap:=Ry aj;clear aj;go_wp2;go_region_held3 (λt=>t.cell? ⟨I,o,none⟩=some (ι W.rule.qh)/\t.cell? ⟨I,o+1,none⟩=some (ι W.rule.vars)/\t.cell? ⟨I,o+2,none⟩=some (ι W.rule.head.pred)/\t.cell? ⟨I,o+3,none⟩=some (.slice ag W.rule.head.qg.length H)/\t.cell? ⟨I,o+4,none⟩=some (.slice ah W.rule.qc.length y)/\t.cell? ⟨I,o+5,none⟩=some (.slice U W.rule.qw.length F)/\t.cell? ⟨I,o+7,none⟩=some (.slice ae W.rule.qw.length z)) (first|(exact⟨ab,af,ad,N,L,O,M⟩)|(exact⟨(kp _ _ _ _ _ g).trans ab,(kp _ _ _ _ _ g).trans af,(kp _ _ _ _ _ g).trans ad,(kp _ _ _ _ _ g).trans N,(kp _ _ _ _ _ g).trans L,(kp _ _ _ _ _ g).trans O,(kp _ _ _ _ _ g).trans M⟩)|go_keep|(go_simp;done)) (first|(go_at_call 214;refine(aY.out _ (by exact(by go_grown))).mono ?_;rintro e w2 ⟨PJ,rfl,A,a0,aS⟩;have K:μ wr w2:=(zM (by go_grown) aS (zf _));have aA:=HW.out.below (R5 f K);obtain⟨bi,a2,ab,af,ad,N,L,O,_,M⟩:=aA;rw[E.out.1] at N;rw[E.out.2.1] at L;rw[E.out.2.2.1] at O;rw[E.out.2.2.2] at M;have j:=wg B.out K;have aK:=tE A j;have Q:=pw J PJ A.hlen.1 A.jl;have aN:=Ry A;have aJ:=Ry a0;clear A a0;generalize aw:uw J PJ=cs at *;have aV:=Ry aw;clear aw))
 have aL:=p8 (cs:=cs) j Q;have ay:=rW w2 w.heap.size cs;have aE:=aN.out.saveJ ay (RL.box j.choose_spec.1);have a7:=(R5 f K).trans (ay.below (by simp) (by have:=K.size;omega));clear aK d0 d1 d2 d3 d4 d5 d7 ab af ad N L O M bc a2;generalize gy w2 w.heap.size cs=w5 at *;go_wp2
 (try simp only[Exit.inBlock,Exit.then])
 exact zO (v:=.agg cs.toArray) (tu rfl _ _ _ _ _ (by rfl) (run_loadVar_mid w5 w.heap.size 0 310 cs _ aL.range underlying310 rfl (by rw[Q];exact Re))) rfl ⟨PJ,by rw[ap.out,aV.out],by rw[ap.out];exact aE,aJ.out,a7⟩
end
section
open Go.Proofs.Tryz
variable {lo:Nat}{w:World}{p:Nat}
structure T6 (c:Array Value) (o:Nat) (r:zs) (P:xe):Prop where
 c0:c[o]?=some (ι r.qh)
 c1:c[o+1]?=some (ι r.vars)
 c2:c[o+2]?=some (ι r.head.pred)
 c3:c[o+3]?=some P.tv
 c4:c[o+4]?=some P.pv
 c5:c[o+5]?=some P.nv
 c6:c[o+6]?=some P.vv
 c7:c[o+7]?=some P.ntv
def T6.at{b o:Nat}{T:TypeId}{c:Array Value}{r:zs}{P:xe}(h:T6 c o r P)(d:Rz w b c T):WC w b o r P:=by
 obtain⟨a,e⟩:=d.rules;exact⟨d.lt,e,(a _).trans h.c0,(a _).trans h.c1,(a _).trans h.c2,(a _).trans h.c3,(a _).trans h.c4,(a _).trans h.c5,(a _).trans h.c6,(a _).trans h.c7⟩
def uo.mod{ok:TypeId->zn->Prop}{w w':World}{own own':Nat->zn}{k wd:Nat}{W:yb}{P:xe}(h:uo lo w own k wd W P)(m:R9 lo ok w own w' own')(d:∀ρ,¬ok 284 ρ)(l:∀ρ,¬ok 204 ρ)(g:¬ok 301 (k+1,0,9))(f:∀ρ,¬ok 162 ρ)(e:∀i j t,¬Su t->¬ok t (k+1,i,j)):uo lo w' own' k wd W P:=
 ⟨h.rule.mod m d l,r9 h.qm m λb c=>by rw[h.vrole b c];exact g,h.vlen,λi a b=>(h.view i a b).mod m (e i) d,λb c=>by rw[m.old b (yA h.qm c)];exact h.vrole b c,vC h.qw m f,h.nlen,h.few⟩
def mF{t:TypeId}(a:Su t)(h:t∉[214,161,165,310,323]):∀ρ,¬kl p t ρ:=λρ q=>by
 rcases q with (q|q|q|q)|q
 .exact q.1 a
 .subst q;exact h (by decide)
 .subst q;exact h (by decide)
 .rw[q.1] at h;exact h (by decide)
 .rcases zy.1 q with rfl|q
  .exact h (by decide)
  .rcases zy.1 q with rfl|q
   .exact h (by decide)
   .cases q
def Lz{t:TypeId}{ρ:zn}(a:¬Su t)(h:ρ≠(0,p,0)):¬kl p t ρ:=λq=>by
 rcases q with (q|q|q|q)|q
 .exact h q.2
 .subst q;exact a (by decide)
 .subst q;exact a (by decide)
 .rw[q.1] at a;exact a (by decide)
 .rcases zy.1 q with rfl|q
  .exact a (by decide)
  .rcases zy.1 q with rfl|q
   .exact a (by decide)
   .cases q
def uo.all{w':World}{own own':Nat->zn}{k wd:Nat}{W:yb}{P:xe}(h:uo lo w own k wd W P)(m:R9 lo (kl p) w own w' own'):uo lo w' own' k wd W P:=
 h.mod m (mF (by decide) (by decide)) (mF (by decide) (by decide)) (mF (by decide) (by decide) _) (mF (by decide) (by decide)) (λ_ _ _ a=>Lz a (by simp))
def dD(b:List Nat)(n:Nat)(r:zs)(a:List Nat):Prop:=∀i (d:i<r.qw.length) (e:i<a.length),r.qw[i].pred≠r.head.pred/\r.qw[i].pred<n/\∃c:r.qw[i].pred<b.length,a[i]=b[r.qw[i].pred]
def DC(wd:Nat)(R:zu)(r:zs):(ju wd R r).length=r.qw.length:=by simp[ju]
def dD.tries{w:World}{own:Nat->zn}{k:Nat}{R:zu}{wd mr mx:Nat}{Q:um}{r:zs}{a:List Nat}(h:dD Q.tbs R.rows.length r a)(d:zY lo w own k R wd mr mx Q)(m:a.length=r.qw.length):∀i (j:i<(ju wd R r).length) (c:i<a.length),∃ρ,ρ≠(0,r.head.pred,0)/\xa lo w own ρ a[i] (ju wd R r)[i]:=by
 intro i j c;obtain⟨l,b,f,g⟩:=h i (by omega) c;refine⟨(0,r.qw[i].pred,0),by simp[l],?_⟩;have e:(ju wd R r)[i]=R.rows[r.qw[i].pred]:=by
  simp only[ju,xV,ly];rw[za (by omega)];simp[b]
 rw[e,g];exact d.tries _ b f
def eI{mr:Nat}{R R':zu}{row:zi}{b:Bool}(h:jM mr R p row=some (R',b)):R'.rows.length=R.rows.length:=by
 obtain⟨_,_,_,_,_,a⟩:=iX h;rcases a with⟨_,rfl,_⟩|⟨_,rfl,_⟩<;>simp
def sK{mr p:Nat}:∀(n:Nat) (R R':zu) (J:z7) (b:Bool),vG mr p n R J=some (R',b)->R'.rows.length=R.rows.length
 |0,R,R',J,b,h=>by simp[vG] at h
 |n+1,R,R',J,b,h=>by
  unfold vG at h;cases e:fB n J with
  |none=>rw[e] at h;cases h
  |some g=>
   obtain⟨d,i⟩:=g;rw[e] at h;cases i with
   |false=>
    simp only[zr,yc] at h;rw[←h.1]
   |true=>
    dsimp only at h;cases a:jM mr R p (zG d.head d.jd) with
    |none=>rw[a] at h;cases h
    |some c=>
     obtain⟨f,j⟩:=c;rw[a] at h;cases j with
     |false=>
      simp only[zr,yc] at h;rw[←h.1];exact eI a
     |true=>exact(sK n f R' d b h).trans (eI a)
attribute [local go_sem] su
def jG.laid{J:z7}{a:x9}(h:jG lo w J a)(i:lo<=w.heap.size):RR lo (gy (w.alloc (.cells (bj 0 0 0 none none 0 0 0 0).toArray 310)) w.heap.size (uw J a)) w.heap.size J a/\μ w (gy (w.alloc (.cells (bj 0 0 0 none none 0 0 0 0).toArray 310)) w.heap.size (uw J a)):=by
 have b:μ w (w.alloc (.cells (bj 0 0 0 none none 0 0 0 0).toArray 310)):=(zp _ _).alloc (zf _) _;have f:=pS w 0 0 0 none none 0 0 0 0;have d:=p8 f (pw J a h.hlen.1 h.jl);have e:=rW (w.alloc (.cells (bj 0 0 0 none none 0 0 0 0).toArray 310)) w.heap.size (uw J a);obtain⟨j,c,_⟩:=f;exact⟨((h.below b).saveJ e (RL.box c)).join i d,b.trans (e.below (λx g=>by simp at g;omega) (by simp))⟩
def PY(w:World)(own:Nat->zn)(A B o k:Nat)(c:Array Value)(R R':zu)(W:yb)(P:xe)(wd mr mx:Nat)(Q:um)(n:Nat)(b:Bool)(h:zY lo w own A R wd mr mx Q)(X:uo lo w own k wd W P)(z:Rz w B c 292)(s:T6 c o W.rule P)(I:dD Q.tbs R.rows.length W.rule P.nbs)(r:lo<=w.heap.size)(hr:kG n wd mr true R W=some (R',b)):
  Calls prog 193 #[(π A),.pointer (some ⟨B,o,none⟩),.bool true] w λe w'=>tT lo w own A W.rule.head.pred R' b wd mr mx Q e w':=by
 have O:=hr;have U:=Ry (Lm w own k wd W.rule.head.pred B o W P _ X (s.at z) r (DC _ _ _) (I.tries h X.nlen));have S:=Ry λW0 jb t q hj G=>F9 W0 own A jb R R' _ t wd mr mx Q W.rule.head.pred n b (h.below q) hj G (by have:=q.size;omega) O;have E:=s.at z;have y:=Ry E;have V:=Ry r;generalize xB W.rule (W.qm.map (·.all)) (ju wd R W.rule)=J at *;generalize K:W.rule.head.pred=p at *;have C:=Ry K;go_enter func193,ntmps193;go_upto_region 3 with (first|(go_at_call 207;refine U.out.mono ?_;rintro e i ⟨t,rfl,a,m,g⟩;have ac:μ i (i.alloc (.cells (bj 0 0 0 none none 0 0 0 0).toArray 310)):=(by go_grown);have ab:=tE a (pS i 0 0 0 none none 0 0 0 0);have Y:=pw J t a.hlen.1 a.jl;have T:=Ry a;have F:=Ry m;clear a m;generalize x:uw J t=cs at *;have M:=Ry x;clear x))
 have H:=zZ V.out g.size;have d:=T.out.laid H;rw[M.out] at d;obtain⟨N,D⟩:=d;generalize gy (i.alloc (.cells (bj 0 0 0 none none 0 0 0 0).toArray 310)) i.heap.size cs=Z at *;have f:=g.trans (D.mono g.size);have aa:Z.cell? ⟨B,o+2,none⟩=some (ι p):=by rw[←C.out];exact(f.cell y.out.lt).trans y.out.c2
 have j:=S.out Z _ t f N F.out;have L:=Ry f;go_wp2_with (go_at_call 208;refine j.mono ?_;rintro e w4 ⟨rfl,v,u,l,hm⟩)
 go_ret;exact⟨rfl,v,u,l,(R9.of own L.out).trans hm⟩
end
section
open Go.Proofs.Tryz
variable {lo:Nat}
attribute [local go_sem] su
def JF(w:World)(own:Nat->zn)(rb gw o k:Nat)(c:Array Value)(R R':zu)(W:yb)(P:xe)(wd mr mx:Nat)(Q:um)(n:Nat)(b:Bool)(h:zY lo w own rb R wd mr mx Q)(hw:uo lo w own k wd W P)(O:Rz w gw c 292)(V:T6 c o W.rule P)(ap:dD Q.tbs R.rows.length W.rule P.nbs)(ay:lo<=w.heap.size)(hr:kG n wd mr false R W=some (R',b)):
  Calls prog 193 #[(π rb),.pointer (some ⟨gw,o,none⟩),.bool false] w λe w'=>tT lo w own rb W.rule.head.pred R' b wd mr mx Q e w':=by
 have ad:Hid (jJ n wd mr W (W.qm.length-0) 0 R=some (R',b)):=hr;have HH:=Ry h;have a6:=Ry hw;have aJ:=Ry O;have a0:=Ry V;have aL:=Ry ap;have aM:=Ry ay;have aQ:=hw.few;obtain⟨aU,aP,T⟩:=zq hw.qm;have a7:=Ry T;have Z:=V.at O;have aS:=Z.lt;have aD:=Z.c6;rw[T] at aD;clear hr h hw O V ap ay T Z;go_enter func193,ntmps193;go_upto_region 5 with fail
 go_loopw [27] (λaH wr=>∃m:Nat,m<=W.qm.length/\aH=ι m/\∃B a D,Hid (zY lo wr a rb B wd mr mx ⟨Q.rv,Q.tbs,Q.fv,D⟩)/\Hid (R9 lo (kl W.rule.head.pred) w own wr a)/\Hid (B.rows.length=R.rows.length)/\Hid (jJ n wd mr W (W.qm.length-m) m B=some (R',b))) (λi _=>W.qm.length-(intOf i).toNat);exact⟨0,zv _,rfl,R,own,Q.fvs,HH,R9.refl _ _,rfl,ad⟩;clear ad;obtain⟨m,hm,rfl,B,a,D,F,j,N,au⟩:=hrel;have aq:=j.out.size;have u:=zZ aM.out aq;by_cases I:m<W.qm.length
 .have aa:=Ry (a6.out.all j.out);have am:=Ry (aJ.out.mod j.out (mF (by decide) (by decide) _));have E:=aa.out;have ai:m<P.vps.length:=by rw[E.vlen];exact I
  obtain⟨gv,aB,r,aV,q0,q1,q2,q3,q4,q5⟩:=E.viewAt m I ai;rw[a7.out] at r;simp only[Value.slice.injEq] at r;have aG:=r.1;clear r;subst aG;have ab:=E.view m I ai;obtain⟨ak,K,hq⟩:=ab.qg.qy;rw[hq] at q1;have d:=au.out;rw[show W.qm.length-m=(W.qm.length-(m+1))+1 from by omega] at d;unfold jJ at d;rw[show W.qm.getD m ⟨⟨0,[]⟩,zj.zero,zj.zero,zj.zero⟩=W.qm[m] by simp[List.getD,I]] at d;obtain⟨aA,a3,_⟩:=ab.qp;have an:=Ry λH hb=>Gp H _ _ aA (a3.below hb);have l:=(a0.out.at am.out);have aK:=l.lt;have aR:(m:Int)<(W.qm.length:Int):=by omega
  clear a3 ab hq E;by_cases ax:W.qm[m].qp.count>0
  .rw[zb ax] at d;rcases ha:vG mr W.rule.head.pred n B (xB W.rule (RN W.qm m) (ju wd B W.rule)) with _|ar;rw[ha] at d;cases d;obtain⟨R3,b3⟩:=ar;rw[ha] at d;have z:=sK _ _ _ _ _ ha;have a9:=Ry (z.trans N.out);have a5:Hid (∀H,μ wr H->Calls prog 210 #[.pointer (some ⟨gw,o,none⟩),ι m] H λe w'=>mv lo H a W.rule.head.pred (xB W.rule (RN W.qm m) (ju wd B W.rule)) e w'):=λH hb=>by
    have aI:=R9.of (lo:=lo) (ok:=kl W.rule.head.pred) a hb;exact MK H a k wd W.rule.head.pred gw o m W P _ (aa.out.all aI) ((a0.out.at am.out).below hb) (zZ u hb.size) (by omega) (DC _ _ _) (dD.tries (by rw[N.out];exact aL.out) (F.out.below hb) aa.out.nlen)
   have ah:=Ry λH jb PJ af hj a8=>F9 H a rb jb B R3 _ PJ wd mr mx _ W.rule.head.pred n b3 (F.out.below af) hj a8 (zZ u af.size) ha;have aN:=Ry l.c2;clear l ha z;generalize xB W.rule (RN W.qm m) (ju wd B W.rule)=J at *;have aC:(0:Int)<(W.qm[m].qp.count:Nat):=by omega
   have A:Hid ((match (some (R3,b3):Option (zu×Bool)) with|none=>none|some (R,false)=>some (R,false)|some (R,true)=>jJ n wd mr W (W.qm.length-(m+1)) (m+1) R)=some (R',b)):=d;clear d;generalize W.qm[m].qp.count=ct at *;generalize W.qm[m].lit.pred=vp at *;generalize W.qm[m].lit.qg.length=vt at *;generalize P.vps[m].bb=M at *;generalize P.vps[m].fb=U at *;generalize P.vps[m].ab=X at *;generalize a1:W.rule.head.pred=p at *;have aE:=Ry a1;clear a1;have f:μ wr (wr.alloc (.cells #[ι vp,.slice ak vt K,ι wd,(π M),(π U),(π X)] 301)):=(by go_grown);have g:=Ry f;clear f;go_upto_region 9 with (first|(go_at_call 209;refine(an.out _ g.out).mono ?_;rintro e C ⟨rfl,Y⟩;obtain rfl:=Y.symm)|(go_at_call 210;refine(a5.out _ g.out).mono ?_;rintro e C ⟨PJ,rfl,v,aw,ao⟩;have S:=R5 g.out ao;clear ao;have aO:μ C (C.alloc (.cells (bj 0 0 0 none none 0 0 0 0).toArray 310)):=(by go_grown);have aF:=tE v (pS C 0 0 0 none none 0 0 0 0);have ae:=pw J PJ v.hlen.1 v.jl;have aj:=Ry v;have ag:=Ry aw;clear v aw;generalize al:uw J PJ=cs at *;have av:=Ry al;clear al))
   have s:=aj.out.laid (zZ u S.size);rw[av.out] at s;obtain⟨a4,az⟩:=s;generalize gy (C.alloc (.cells (bj 0 0 0 none none 0 0 0 0).toArray 310)) C.heap.size cs=W3 at *;have G:=R5 S az;have aT:=zl G aK aN.out;have L:=ah.out W3 _ PJ G a4 ag.out;have a2:=Ry G;clear a4 az G aj ag av aF ae aO ah a5 S;generalize C.heap.size=jb at *;cases b3
   .have HE:Hid (R3=R'/\false=b):=by have q:=A.out;simp only[zr,yc] at q;exact q
    go_wp2_with (go_at_call 208;refine L.mono ?_;rintro e w4 ⟨rfl,y,x,t,ac⟩)
    go_ret;exact⟨by rw[←HE.out.2];rfl,y,x,by rw[←HE.out.1];exact t,by rw[aE.out];exact j.out.trans ((R9.of a a2.out).trans ac)⟩
   have HE:Hid (jJ n wd mr W (W.qm.length-(m+1)) (m+1) R3=some (R',b)):=A.out;clear A;go_wp2_with (go_at_call 208;refine L.mono ?_;rintro e w4 ⟨rfl,y,x,t,ac⟩)
   exact⟨⟨m+1,by omega,by go_num,R3,y,x,t,j.out.trans ((R9.of a a2.out).trans ac),a9,HE⟩,by simp[intOf];omega⟩
  rw[za ax] at d;have A:=Ry d;clear d l;have aC:¬(0:Int)<(W.qm[m].qp.count:Nat):=by omega
  generalize W.qm[m].qp.count=ct at *;generalize W.qm[m].lit.pred=vp at *;generalize W.qm[m].lit.qg.length=vt at *;generalize P.vps[m].bb=M at *;generalize P.vps[m].fb=U at *;generalize P.vps[m].ab=X at *;have f:μ wr (wr.alloc (.cells #[ι vp,.slice ak vt K,ι wd,(π M),(π U),(π X)] 301)):=(by go_grown);have g:=Ry f;clear f;go_wp2_with (go_at_call 209;refine(an.out _ g.out).mono ?_;rintro e C ⟨rfl,Y⟩;obtain rfl:=Y.symm)
  exact⟨⟨m+1,by omega,by go_num,B,a,D,F.out.below g.out,j.out.trans (R9.of a g.out),N,A⟩,by simp[intOf];omega⟩
 obtain rfl:m=W.qm.length:=by omega
 have d:=au.out;rw[jv] at d;simp only[jJ,zr,yc] at d;have HE:=Ry d;clear d;go_wp2;go_ret;exact⟨by rw[←HE.out.2];rfl,a,D,by rw[←HE.out.1];exact F.out,j.out⟩
def Mc(w:World)(own:Nat->zn)(f j o k:Nat)(c:Array Value)(R R':zu)(W:yb)(P:xe)(wd mr mx:Nat)(Q:um)(n:Nat)(first b:Bool)(h:zY lo w own f R wd mr mx Q)(m:uo lo w own k wd W P)(d:Rz w j c 292)(i:T6 c o W.rule P)(g:dD Q.tbs R.rows.length W.rule P.nbs)(a:lo<=w.heap.size)(l:kG n wd mr first R W=some (R',b)):
  Calls prog 193 #[(π f),.pointer (some ⟨j,o,none⟩),.bool first] w λe p=>tT lo w own f W.rule.head.pred R' b wd mr mx Q e p:=by
 cases first
 exact JF w own f j o k c R R' W P wd mr mx Q n b h m d i g a l;exact PY w own f j o k c R R' W P wd mr mx Q n b h m d i g a l
end
section
open Go.Proofs.Tryz
variable {lo:Nat}{c:Array Value}{w w':World}{own':Nat->zn}{wd cap:Nat}{xs:List Value}
def fj(k:Nat):TypeId->zn->Prop:=λt ρ=>(¬Su t/\∃i j,ρ=(k+1,i,j))∨(t=301/\ρ=(k+1,0,9))
def Me{k i:Nat}{t:TypeId}{ρ:zn}(h:l3 k i (k+1,0,9) t ρ):fj k t ρ:=by
 rcases h with⟨b,j,a⟩|h
 exact zh ⟨b,i,j,a⟩;exact ze h
def lK{k:Nat}{t:TypeId}(h:Su t)(a:t≠301):∀ρ,¬fj k t ρ:=λρ q=>by
 rcases q with q|q
 .exact q.1 h
 .exact a q.1
def pY{k:Nat}{t:TypeId}{a b c:Nat}(h:a≠k+1):¬fj k t (a,b,c):=λq=>by
 rcases q with⟨_,i,j,q⟩|⟨_,q⟩<;>simp at q<;>omega
def gu{k i:Nat}{ρg:zn}{t:TypeId}(h:Su t)(a:t≠301):∀ρ,¬l3 k i ρg t ρ:=λρ q=>by
 rcases q with q|q
 .exact q.1 h
 .exact a q.1
def zY.work{own:Nat->zn}{a:Nat}{R:zu}{mr mx k:Nat}{Q:um}(h:zY lo w own a R wd mr mx Q)(m:R9 lo (fj k) w own w' own'):zY lo w' own' a R wd mr mx Q:=
 h.mod m (lK (by decide) (by decide)) (lK (by decide) (by decide)) (lK (by decide) (by decide)) (λ_=>pY (by omega)) (λ_ _ _=>pY (by omega))
def Iq{b:Nat}{e:TypeId}{a g n m:Nat}(h:w.ownsRow b e a (.slice (some ⟨g,0,none⟩) n cap) m xs)(k:w'.heap[g]?=w.heap[g]?):w'.ownsRow b e a (.slice (some ⟨g,0,none⟩) n cap) m xs:=by
 obtain⟨p,j⟩:=h;refine⟨p,?_⟩;rcases j with j|⟨q,d,i,f,l,r,o⟩;exact zh j;refine ze ⟨q,d,i,f,l,?_,o⟩;simp at f;rw[←f.1,k,f.1];exact r
def Oo{b:Nat}{e:TypeId}{a g n m:Nat}(h:w.ownsRow b e a (.slice (some ⟨g,0,none⟩) n cap) m xs)(f:Rz w g c e)(j:Nat)(i:j<xs.length)(u:Value)(d:Rz w' g (c.setIfInBounds j u) e):w'.ownsRow b e a (.slice (some ⟨g,0,none⟩) n cap) m (xs.set j u):=by
 refine Iq (uj h j i u) ?_;unfold Rz at d f;rw[d];simp[World.setCell,Array.getElem?_modify,f]
def AW(wd:Nat):∀(vs:List yF) (ps:List j6),ps.length=vs.length->(vW wd vs ps).length=6*vs.length
 |[],[],_=>rfl
 |[],_::_,h=>by simp at h
 |_::_,[],h=>by simp at h
 |v::vs,p::ps,h=>by
  have:=AW wd vs ps (by simpa using h);simp only[vW,mt,mR,yC] at this ⊢;rw[this];simp[gI];omega
def AJ(wd:Nat):∀(vs:List yF) (ps:List j6) (i:Nat) (_:i<vs.length) (b:i<ps.length) (V:yF) (a:Nat),V.lit=(vs.getD i V).lit->vW wd (vs.set i V) (ps.set i ⟨ps[i].tv,ps[i].bb,a,ps[i].ab⟩)=(vW wd vs ps).set (i*6+4) ((π a))
 |[],_,i,d,_,_,_,_=>by simp at d
 |v::vs,[],i,_,b,_,_,_=>by simp at b
 |v::vs,p::ps,0,_,_,V,a,h=>by
  simp at h;simp[vW,gI,h,pt]
 |v::vs,p::ps,i+1,d,b,V,a,h=>by
  have:=AJ wd vs ps i (by simpa using d) (by simpa using b) V a (by simpa using h);simp only[vW,nS,mt,mR,pd] at this ⊢;rw[this,List.set_append,za (by simp[gI];omega)];congr 2;simp[gI];omega
def vc{α:Type}(a vs:List α)(m:Nat):List α:=a.take m++vs.drop m
def et{α:Type}{a vs:List α}(h:a.length=vs.length)(m:Nat)(b:m<=vs.length):(vc a vs m).length=vs.length:=by simp[vc];omega
def AP{α:Type}{a vs:List α}(h:a.length=vs.length)(m:Nat)(d:m<vs.length)(b:m<(vc a vs m).length):(vc a vs m)[m]=vs[m]:=by
 simp only[vc];rw[l5 (by simp;omega)];simp[show min m a.length=m by omega]
def AY{α:Type}{a vs:List α}(h:a.length=vs.length)(m:Nat)(f:m<vs.length)(b:m<a.length):(vc a vs m).set m a[m]=vc a vs (m+1):=by
 have d:=xh f;have g:a.take (m+1)=a.take m++[a[m]]:=by rw[yP b]
 have e:(a.take m).length=m:=by simp;omega
 show(a.take m++vs.drop m).set m a[m]=a.take (m+1)++vs.drop (m+1);rw[d,g,List.set_append,za (by omega),e,jv,nZ,kz];rfl
def En{f:Nat}{V b:yF}{a:List zi}(h:dU f wd V a=some b):b.lit=V.lit:=by
 obtain⟨_,_,_,_,_,_,_,_,e⟩:=E7 h;rw[e]
def Dn{f wd:Nat}{j:List (List zi)}:∀{vs a:List yF},dX f wd j vs=some a->a.length=vs.length/\∀i (b:i<vs.length) (g:i<a.length),if vs[i].lit.pred<j.length then dU f wd vs[i] (j.getD vs[i].lit.pred [])=some a[i] else a[i]=vs[i]
 |[],a,h=>by
  simp[dX] at h;subst h;exact⟨rfl,λi h=>by simp at h⟩
 |V::vs,a,h=>by
  unfold dX at h;split at h
  .rename_i v l d k;simp at h;subst h;obtain⟨n,m⟩:=Dn k;refine⟨by simp[n],λi b g=>?_⟩;match i,b,g with
   |0,_,_=>
    simp only[gH];by_cases e:V.lit.pred<j.length
    .rw[zb e] at d ⊢;exact d
    .rw[za e] at d ⊢;simpa using d.symm
   |i+1,b,g=>
    simp only[pd];exact m i (by simpa using b) (by simpa using g)
  .cases h
def uo.renewed{own:Nat->zn}{k i g d:Nat}{W:yb}{P:xe}{n:yF}(h:uo lo w own k wd W P)(u:i<W.qm.length)(A:i<P.vps.length)(o:P.vv=.slice (some ⟨g,0,none⟩) W.qm.length cap)(B:Rz w g c 301)(x:n.lit=W.qm[i].lit)(z:vE lo w' own' k i n ⟨P.vps[i].tv,P.vps[i].bb,d,P.vps[i].ab⟩)(y:Rz w' g (c.setIfInBounds (i*6+4) ((π d))) 301)(m:R9 lo (l3 k i (k+1,0,9)) w own w' own'):uo lo w' own' k wd ⟨W.rule,W.qm.set i n⟩ {P with vps:=P.vps.set i ⟨P.vps[i].tv,P.vps[i].bb,d,P.vps[i].ab⟩}:=by
 refine⟨h.rule.mod m (gu (by decide) (by decide)) (gu (by decide) (by decide)),?_,by simp[h.vlen],λj a b=>?_,λb f=>(m.old b (yA h.qm f)).trans (h.vrole b f),vC h.qw m (gu (by decide) (by decide)),h.nlen,by simpa using h.few⟩;have s:=h.qm;dsimp only;rw[o] at s ⊢;rw[gx];have e:=AJ wd W.qm P.vps i u A n d (by simp[List.getD,u,x]);have r:=AW wd W.qm P.vps h.vlen;have q:=Oo s B (i*6+4) (by omega) ((π d)) y;rw[←e] at q;exact q;simp only[gx] at a b;simp only[lg];by_cases e:i=j;subst e;rw[zb rfl,zb rfl];exact z;rw[za e,za e];refine(h.view j a b).mod m (λq t v l=>?_) (gu (by decide) (by decide));rcases l with⟨_,C,l⟩|⟨p,l⟩
 simp at l;omega;subst p;exact v (by decide)
def PG(lo:Nat)(w:World)(own:Nat->zn)(k wd:Nat)(W:yb)(b:List yF)(P:xe)(e:Ending)(w':World):Prop:=e=ε (.tuple #[])/\∃own' a,uo lo w' own' k wd ⟨W.rule,b⟩ ⟨P.tv,P.pv,P.nv,P.vv,P.ntv,a,P.nbs⟩/\R9 lo (fj k) w own w' own'
def LN(w:World)(own:Nat->zn)(rb gw o k:Nat)(c:Array Value)(R:zu)(W:yb)(f:List yF)(P:xe)(wd mr mx:Nat)(Q:um)(ae:Nat)(h:zY lo w own rb R wd mr mx Q)(hw:uo lo w own k wd W P)(ag:Rz w gw c 292)(am:T6 c o W.rule P)(a5:lo<=w.heap.size)(a9:∀l∈R.qp,l.length<=1048577)(hr:dX ae wd R.qp W.qm=some f):
  Calls prog 194 #[.pointer (some ⟨gw,o,none⟩),Q.fv] w λe w'=>PG lo w own k wd W f P e w':=by
 obtain⟨aA,a3⟩:=Dn hr;have D:=Ry aA;have aH:=Ry a3;have HH:=Ry h;have aB:=Ry hw;have aI:=Ry ag;have a7:=Ry am;have aL:=Ry a5;have aO:=Ry a9;have aR:=hw.few;have aV:=h.few.2.1;obtain⟨aZ,y,ah⟩:=zq hw.qm;have A:=Ry ah;obtain⟨aX,aQ,af⟩:=zq h.qp;have aw:=Ry af;have ar:=am.at ag;have aW:=ar.lt;have a0:=ar.c6;rw[ah] at a0;rw[af];clear hr h hw ag am a5 ah ar aA a3 a9 af;go_enter func194,ntmps194;go_upto_region 1 with fail
 go_loopw [11] (λaD wr=>∃m:Nat,m<=W.qm.length/\aD=ι m/\∃d a,Hid (uo lo wr d k wd ⟨W.rule,vc f W.qm m⟩ ⟨P.tv,P.pv,P.nv,P.vv,P.ntv,a,P.nbs⟩)/\Hid (R9 lo (fj k) w own wr d)) (λi _=>W.qm.length-(intOf i).toNat);exact⟨0,zv _,rfl,own,P.vps,aB.out,R9.refl _ _⟩;obtain⟨m,hm,rfl,d,a,V,C⟩:=hrel;have a4:=C.out.size;have a1:=zZ aL.out a4;by_cases U:m<W.qm.length
 .have L:=V.out;have v:m<(vc f W.qm m).length:=by rw[et D.out m hm];exact U
  have au:m<f.length:=by rw[D.out];exact U
  have u:=AP D.out m U v;have Y:=AY D.out m U au;have ab:m<a.length:=by have:=L.vlen;dsimp only at this;omega
  obtain⟨gv,aC,s,F,q0,q1,q2,q3,q4,q5⟩:=L.viewAt m v ab;dsimp only at s q0 q1 q2 q3 q4 q5;rw[A.out] at s;simp only[Value.slice.injEq] at s;have ai:=s.1;clear s;subst ai;obtain⟨M,p,hq⟩:=(L.view m v ab).qg.qy;dsimp only at hq;rw[hq] at q1;rw[u] at q0 q1;have aT:(m:Int)<(W.qm.length:Int):=by omega
  have al:=Ry (aI.out.mod C.out (lK (by decide) (by decide) _));have a2:wr.cell? ⟨gw,o+6,none⟩=some (.slice (some ⟨gv,0,none⟩) W.qm.length y):=by rw[←A.out];exact(a7.out.at al.out).c6
  have aJ:=al.out.lt;have j:=aH.out m U au;have aY:¬(W.qm[m].lit.pred:Int)<0:=by omega
  by_cases O:W.qm[m].lit.pred<R.qp.length
  .rw[zb O] at j;have aF:=Ry (HH.out.work C.out);have B:=aF.out;have a6:W.qm[m].lit.pred<Q.fvs.length:=by rw[B.flen];exact O
   obtain⟨gf,aM,z,_,a8,az⟩:=yw B.qp (by omega);rw[aw.out] at z;simp only[Value.slice.injEq] at z;have ai:=z.1;clear z;subst ai;have x:=az W.qm[m].lit.pred _ (yi a6);have K:=(B.jo _ O a6).1;obtain⟨aj,I,aa⟩:=zq K.1;have an:R.qp[W.qm[m].lit.pred].length<=1048577:=aO.out _ (zt _);rw[show R.qp.getD W.qm[m].lit.pred []=R.qp[W.qm[m].lit.pred] by simp[List.getD,O]] at j;have ay:Hid (∀S,μ wr S->Rz S wr.heap.size #[ι (W.qm[m].lit.pred:Nat),.slice M W.qm[m].lit.qg.length p,ι wd,.pointer (some ⟨a[m].bb,0,none⟩),.pointer (some ⟨a[m].fb,0,none⟩),.pointer (some ⟨a[m].ab,0,none⟩)] 301->Calls prog 206 #[.pointer (some ⟨gv,m*6,none⟩),.slice aj R.qp[W.qm[m].lit.pred].length I] S λe w'=>e=ε (.tuple #[])/\w'.cell? ⟨gw,o+6,none⟩=some (.slice (some ⟨gv,0,none⟩) W.qm.length y)/\w'.cell? ⟨wr.heap.size,0,none⟩=some (ι (W.qm[m].lit.pred:Nat))/\w'.cell? ⟨gf,W.qm[m].lit.pred,none⟩=some (.slice aj R.qp[W.qm[m].lit.pred].length I)/\Hid (∃own' J,uo lo w' own' k wd ⟨W.rule,vc f W.qm (m+1)⟩ ⟨P.tv,P.pv,P.nv,P.vv,P.ntv,J,P.nbs⟩/\R9 lo (fj k) w own w' own')):=λS t X=>by
    have ax:R9 lo (λ_ _=>False) wr d S (ext d wr.heap.size (0,0,5)):=R9.extNew d (0,0,5) t;have Z:=V.out.mod ax (λ_=>id) (λ_=>id) id (λ_=>id) (λ_ _ _ _=>id);have av:=al.out.below t;have ac:=Z.qm;dsimp only at ac;rw[A.out] at ac;obtain⟨cg,ak⟩:=jL ac rfl;have ap:=Z.vrole gv (by dsimp only;rw[A.out];rfl);obtain⟨n,_⟩:=ak.rules;obtain⟨cf,ad⟩:=jL (zB B.qp t) (b:=gf) (by rw[aw.out];rfl);have aG:VC cg (m*6) wd W.qm[m].lit.pred a[m].tv a[m].bb a[m].fb a[m].ab:=⟨(n _).symm.trans ((t.cell F).trans q0),(n _).symm.trans ((t.cell F).trans (by rw[q1,hq,u])),(n _).symm.trans ((t.cell F).trans q2),(n _).symm.trans ((t.cell F).trans q3),(n _).symm.trans ((t.cell F).trans q4),(n _).symm.trans ((t.cell F).trans q5)⟩;have aq:=Z.view m v ab;dsimp only at aq;rw[u] at aq;have q:=FC S _ k m gv (m*6) wd ae cg W.qm[m] f[m] a[m] _ _ ak aG aq (K.below' t) (yX ac rfl) (zZ a1 t.size) B.small.1 an j;rw[aa] at q;refine q.mono ?_;rintro e w' ⟨rfl,aU,own',aP,aE,E⟩;rw[ap] at E;have ao:=Z.renewed (W:=⟨W.rule,vc f W.qm m⟩) v ab (cap:=y) (by dsimp only;rw[A.out,et D.out m hm]) ak (by dsimp only;rw[u];exact En j) aP aE E;dsimp only at ao;rw[Y] at ao;have c1:=av.mod E (gu (by decide) (by decide) _);have c2:=X.mod E (λq=>by rcases q with⟨q,_⟩|⟨_,q⟩;exact q (by decide);simp[ext] at q);have c3:=ad.mod E (gu (by decide) (by decide) _);refine⟨rfl,?_,?_,?_,own',_,ao,(C.out.trans (ax.more λ_ _ q=>q.elim)).trans (E.more λ_ _ q=>Me q)⟩;rw[←A.out];exact(a7.out.at c1).c6;rw[c2.rules.1];rfl;rw[c3.rules.1,←ad.rules.1,t.cell a8,x,aa]
   rw[aa] at x;have aS:=an;clear aa K az B j hq L an u Y v;generalize R.qp[W.qm[m].lit.pred].length=rl at *;have aK:(W.qm[m].lit.pred:Int)<(R.qp.length:Int):=by omega
   generalize W.qm[m].lit.pred=vp at *;generalize W.qm[m].lit.qg.length=vt at *;generalize a[m].bb=G at *;generalize a[m].fb=N at *;generalize a[m].ab=T at *;go_upto_region 4 with fail
   have g:μ wr (wr.alloc (.cells #[ι vp,.slice M vt p,ι wd,(π G),(π N),(π T)] 301)):=(by go_grown);have X:=Rz.new wr #[ι vp,.slice M vt p,ι wd,(π G),(π N),(π T)] 301;generalize aN:wr.alloc (.cells #[ι vp,.slice M vt p,ι wd,(π G),(π N),(π T)] 301)=W1 at *;clear aN;have x1:=zl g aJ a2;have x2:=zl g a8 x;have x3:W1.cell? ⟨wr.heap.size,0,none⟩=some (ι vp):=by rw[X.rules.1];rfl
   clear a0 a2 x q0 q1 q2 q3 q4 q5;go_region_held3 (λw'=>w'.cell? ⟨gw,o+6,none⟩=some (.slice (some ⟨gv,0,none⟩) W.qm.length y)/\w'.cell? ⟨wr.heap.size,0,none⟩=some (ι vp)/\w'.cell? ⟨gf,vp,none⟩=some (.slice aj rl I)) (first|go_keep|(go_simp;done)) (first|(go_at_call 206;refine(ay.out _ (by exact(zI g 1)) (Rz.drew X)).mono ?_;rintro e w2 ⟨rfl,y1,y2,y3,HX⟩))
   clear x1 x2 x3 y1 y2 y3 X g ay;go_wp2;obtain⟨own',J,z1,z2⟩:=HX.out;exact⟨⟨m+1,by omega,by go_num,own',J,z1,z2⟩,by simp[intOf];omega⟩
  rw[za O] at j;have r:vc f W.qm (m+1)=vc f W.qm m:=by rw[←Y,j,←u,sD]
  have H:Hid (∀S,μ wr S->uo lo S d k wd ⟨W.rule,vc f W.qm (m+1)⟩ ⟨P.tv,P.pv,P.nv,P.vv,P.ntv,a,P.nbs⟩/\R9 lo (fj k) w own S d):=λS t=>by
   rw[r];exact⟨V.out.mod (R9.of (ok:=λ_ _=>False) d t) (λ_=>id) (λ_=>id) id (λ_=>id) (λ_ _ _ _=>id),C.out.trans (R9.of d t)⟩
  have aK:¬(W.qm[m].lit.pred:Int)<(R.qp.length:Int):=by omega
  clear j hq L u Y v r;generalize W.qm[m].lit.pred=vp at *;generalize W.qm[m].lit.qg.length=vt at *;generalize a[m].bb=G at *;generalize a[m].fb=N at *;generalize a[m].ab=T at *;have g:μ wr (wr.alloc (.cells #[ι vp,.slice M vt p,ι wd,(π G),(π N),(π T)] 301)):=(by go_grown);go_wp2;obtain⟨z1,z2⟩:=H.out _ g;exact⟨⟨m+1,by omega,by go_num,d,a,z1,z2⟩,by simp[intOf];omega⟩
 obtain rfl:m=W.qm.length:=by omega
 have r:vc f W.qm W.qm.length=f:=by simp[vc,←D.out]
 have H:Hid (uo lo wr d k wd ⟨W.rule,f⟩ ⟨P.tv,P.pv,P.nv,P.vv,P.ntv,a,P.nbs⟩):=by rw[←r];exact V.out
 clear V r;go_wp2
 (try simp only[Exit.inBlock,Exit.then])
 exact zO (results_none rfl _ _ _) rfl ⟨rfl,d,a,H.out,C.out⟩
end
section
variable {lo:Nat}{w w':World}{own':Nat->zn}{wd:Nat}{wv:Value}{Ws:List yb}{Ps:List xe}
def gC(Ws:List yb)(Ps:List xe):List Value:=(List.zipWith (λW P=>qZ W.rule P) Ws Ps).flatten
structure ux (lo:Nat) (w:World) (own:Nat->zn) (wd:Nat) (wv:Value) (Ws:List yb) (Ps:List xe):Prop where
 arr:w.ownsRow lo 292 8 wv Ws.length (gC Ws Ps)
 plen:Ps.length=Ws.length
 work:∀k (_:k<Ws.length) (_:k<Ps.length),uo lo w own k wd Ws[k] Ps[k]
 few:Ws.length<=1000
def CH:∀(Ws:List yb) (Ps:List xe) (k:Nat) (b:k<Ws.length) (a:k<Ps.length) (j:Nat),j<8->(gC Ws Ps)[k*8+j]?=(qZ Ws[k].rule Ps[k])[j]?
 |[],_,k,b,_,_,_=>by simp at b
 |v::vs,[],k,_,a,_,_=>by simp at a
 |v::vs,p::d,0,_,_,j,c=>by
  simp only[gC,mt,mR,gH];rw[rm (by simp[qZ];omega)];simp
 |v::vs,p::d,k+1,b,a,j,c=>by
  have:=CH vs d k (by simpa using b) (by simpa using a) j c;simp only[gC,mt,mR,pd] at this ⊢;rw[d9 (by simp[qZ];omega),←this];congr 1;simp[qZ];omega
def DN:∀(Ws:List yb) (Ps:List xe) (k:Nat) (c:k<Ws.length) (b:k<Ps.length) (W':yb) (a:xe),qZ W'.rule a=qZ Ws[k].rule Ps[k]->gC (Ws.set k W') (Ps.set k a)=gC Ws Ps
 |[],_,k,c,_,_,_,_=>by simp at c
 |v::vs,[],k,_,b,_,_,_=>by simp at b
 |v::vs,p::d,0,_,_,W',a,h=>by
  simp only[gH] at h;simp[gC,h]
 |v::vs,p::d,k+1,c,b,W',a,h=>by
  have:=DN vs d k (by simpa using c) (by simpa using b) W' a (by simpa using h);simp only[gC,nS,mt,mR] at this ⊢;rw[this]
def ux.at{w:World}{own:Nat->zn}{wd:Nat}{wv:Value}{Ws:List yb}{Ps:List xe}(h:ux lo w own wd wv Ws Ps)(k:Nat)(l:k<Ws.length)(m:k<Ps.length):∃d a c,wv=.slice (some ⟨d,0,none⟩) Ws.length a/\lo<=d/\Rz w d c 292/\T6 c (k*8) Ws[k].rule Ps[k]:=by
 obtain⟨d,a,g,i,r,n⟩:=yw h.arr (by omega);obtain⟨c,f⟩:=jL h.arr (b:=d) (by rw[g];rfl);have e:∀j,j<8->c[k*8+j]?=(qZ Ws[k].rule Ps[k])[j]?:=λj o=>by
  have q:=CH Ws Ps k l m j o;obtain⟨u,p⟩:∃u,(qZ Ws[k].rule Ps[k])[j]?=some u:=⟨_,yi (show j<(qZ Ws[k].rule Ps[k]).length by simp[qZ];omega)⟩;rw[p] at q ⊢;rw[←f.rules.1];exact n _ _ q
 exact⟨d,a,c,g,i,f,e 0 (by omega),e 1 (by omega),e 2 (by omega),e 3 (by omega),e 4 (by omega),e 5 (by omega),e 6 (by omega),e 7 (by omega)⟩
def ux.all{w w':World}{own own':Nat->zn}{wd p:Nat}{wv:Value}{Ws:List yb}{Ps:List xe}(h:ux lo w own wd wv Ws Ps)(m:R9 lo (kl p) w own w' own'):ux lo w' own' wd wv Ws Ps:=
 ⟨vC h.arr m (mF (by decide) (by decide)),h.plen,λk a b=>(h.work k a b).all m,h.few⟩
def ux.types{own:Nat->zn}{l:List TypeId}(h:ux lo w own wd wv Ws Ps)(m:R9 lo (gO l) w own w' own')(e:∀t∈l,Su t/\t∉[292,284,204,301,162]):ux lo w' own' wd wv Ws Ps:=by
 have c:∀t,t∈[292,284,204,301,162]->∀ρ,¬gO l t ρ:=λt d ρ q=>(e t q).2 d;exact⟨vC h.arr m (c _ (by decide)),h.plen,λk a b=>(h.work k a b).mod m (c _ (by decide)) (c _ (by decide)) (c _ (by decide) _) (c _ (by decide)) (λ_ _ _ d q=>d (e _ q).1),h.few⟩
def ux.below{own:Nat->zn}(h:ux lo w own wd wv Ws Ps)(a:μ w w'):ux lo w' own wd wv Ws Ps:=h.types (l:=[]) (R9.of own a) (by simp)
def ux.renewed{own:Nat->zn}{k:Nat}{d:List yF}{c:List j6}(h:ux lo w own wd wv Ws Ps)(f:k<Ws.length)(g:k<Ps.length)(i:uo lo w' own' k wd ⟨Ws[k].rule,d⟩ ⟨Ps[k].tv,Ps[k].pv,Ps[k].nv,Ps[k].vv,Ps[k].ntv,c,Ps[k].nbs⟩)(m:R9 lo (fj k) w own w' own'):ux lo w' own' wd wv (Ws.set k ⟨Ws[k].rule,d⟩) (Ps.set k ⟨Ps[k].tv,Ps[k].pv,Ps[k].nv,Ps[k].vv,Ps[k].ntv,c,Ps[k].nbs⟩):=by
 refine⟨?_,by simp[h.plen],λj a b=>?_,by simpa using h.few⟩;rw[DN _ _ _ f g _ _ (by simp[qZ]),gx];exact vC h.arr m (lK (by decide) (by decide));simp only[gx] at a b;simp only[lg];by_cases e:k=j;subst e;rw[zb rfl,zb rfl];exact i;rw[za e,za e];exact(h.work j a b).mod m (lK (by decide) (by decide)) (lK (by decide) (by decide)) (pY (by omega)) (lK (by decide) (by decide)) (λ_ _ _ _=>pY (by omega))
def BC{f wd:Nat}{g:List (List zi)}:∀{b a:List yb},gR f wd g b=some a->a.length=b.length/\∀i (c:i<b.length) (d:i<a.length),∃vs,dX f wd g b[i].qm=some vs/\a[i]=⟨b[i].rule,vs⟩
 |[],a,h=>by
  simp[gR] at h;subst h;exact⟨rfl,λi h=>by simp at h⟩
 |W::b,a,h=>by
  unfold gR at h;split at h
  .rename_i v j l e;simp at h;subst h;obtain⟨m,k⟩:=BC e;refine⟨by simp[m],λi c d=>?_⟩;match i,c,d with
   |0,_,_=>exact⟨v,by simpa using l,rfl⟩
   |i+1,c,d=>
    simp only[pd];exact k i (by simpa using c) (by simpa using d)
  .cases h
def jS(R:zu):Prop:=∀l∈R.qp,l.length<=1048577
def jS.clear(R:zu):jS (qD R):=λl a=>by simp[qD] at a;simp[a.2]
def jS.add{mr:Nat}{R R':zu}{p:Nat}{row:zi}{b:Bool}(h:jS R)(d:jM mr R p row=some (R',b)):jS R':=by
 obtain⟨_,_,_,_,e,c⟩:=iX d;rcases c with⟨_,rfl,_⟩|⟨_,rfl,_⟩
 exact h;intro l a;rcases lz a with a|rfl;exact h l a;simp only[yC,xr,g5];omega
def jS.addAll{mr p:Nat}:∀(n:Nat) (R R':zu) (J:z7) (b:Bool),jS R->vG mr p n R J=some (R',b)->jS R'
 |0,R,R',J,b,_,h=>by simp[vG] at h
 |n+1,R,R',J,b,d,h=>by
  unfold vG at h;cases f:fB n J with
  |none=>rw[f] at h;cases h
  |some i=>
   obtain⟨e,j⟩:=i;rw[f] at h;cases j with
   |false=>
    simp only[zr,yc] at h;rw[←h.1];exact d
   |true=>
    dsimp only at h;cases a:jM mr R p (zG e.head e.jd) with
    |none=>rw[a] at h;cases h
    |some c=>
     obtain⟨g,k⟩:=c;rw[a] at h;cases k with
     |false=>
      simp only[zr,yc] at h;rw[←h.1];exact d.add a
     |true=>exact jS.addAll n g R' e b (d.add a) h
def oV{f wd mr:Nat}{W:yb}:∀(n i:Nat) (R R':zu) (b:Bool),jJ f wd mr W n i R=some (R',b)->(jS R->jS R')/\R'.rows.length=R.rows.length
 |0,i,R,R',b,h=>by simp[jJ] at h;rw[←h.1];exact⟨id,rfl⟩
 |n+1,i,R,R',b,h=>by
  unfold jJ at h;split at h
  .split at h
   .cases h
   .rename_i d a;simp only[zr,yc] at h;rw[←h.1];exact⟨λc=>c.addAll _ _ _ _ _ a,sK _ _ _ _ _ a⟩
   .rename_i d a;obtain⟨g,e⟩:=oV n (i+1) d R' b h;exact⟨λc=>g (c.addAll _ _ _ _ _ a),e.trans (sK _ _ _ _ _ a)⟩
  .exact oV n (i+1) R R' b h
def FW{f mr:Nat}{first:Bool}{R R':zu}{W:yb}{b:Bool}(h:kG f wd mr first R W=some (R',b)):(jS R->jS R')/\R'.rows.length=R.rows.length:=by
 unfold kG at h;split at h;exact⟨λa=>a.addAll _ _ _ _ _ h,sK _ _ _ _ _ h⟩;exact oV _ _ _ _ _ h
def uY:TypeId->zn->Prop:=λt ρ=>(¬Su t/\ρ≠(0,0,7))∨t∈[214,161,165,310,323,301]
def iy{p:Nat}{t:TypeId}{ρ:zn}(h:kl p t ρ):uY t ρ:=by
 rcases h with (h|h|h|h)|h
 exact zh ⟨h.1,by rw[h.2];simp⟩;subst h;exact ze (by decide);subst h;exact ze (by decide);rw[h.1];exact ze (by decide);rcases zy.1 h with rfl|h;exact ze (by decide);rcases zy.1 h with rfl|h;exact ze (by decide);cases h
def Ed{k:Nat}{t:TypeId}{ρ:zn}(h:fj k t ρ):uY t ρ:=by
 rcases h with⟨a,i,j,rfl⟩|⟨rfl,_⟩
 exact zh ⟨a,by simp⟩;exact ze (by decide)
def EZ{t:TypeId}{ρ:zn}(h:gO [214] t ρ):uY t ρ:=ze (by rw[xC.1 h];decide)
end
section
open Go.Proofs.Tryz
variable {lo:Nat}
def kZ(a:List Nat)(n:Nat)(c:List yb)(b:List xe):Prop:=∀k (_:k<c.length) (_:k<b.length),dD a n c[k].rule b[k].nbs
def kZ.set{c:List Nat}{n k:Nat}{f:List yb}{d:List xe}(h:kZ c n f d)(m:k<f.length)(o:k<d.length)(g:List yF)(i:xe)(l:i.nbs=d[k].nbs):kZ c n (f.set k ⟨f[k].rule,g⟩) (d.set k i):=by
 intro j a b;simp only[gx] at a b;simp only[lg];by_cases e:k=j;subst e;rw[zb rfl,zb rfl,l];exact h k a b;rw[za e,za e];exact h j a b
def Mh(lo:Nat)(w:World)(own:Nat->zn)(i:Nat)(h:Value)(R R':zu)(d:List yb)(wd mr mx:Nat)(Q:um)(b:Bool)(e:Ending)(w':World):Prop:=
 e=ε (.bool b)/\∃a g c f,zY lo w' a i R' wd mr mx ⟨Q.rv,Q.tbs,g,c⟩/\ux lo w' a wd h d f/\kZ Q.tbs R.rows.length d f/\R'.rows.length=R.rows.length/\R9 lo uY w own w' a
def JD(w:World)(own:Nat->zn)(B:Nat)(wv:Value)(R R':zu)(d a:List yb)(Ps:List xe)(wd mr mx:Nat)(Q:um)(g:Nat)(first b:Bool)(h:zY lo w own B R wd mr mx Q)(hw:ux lo w own wd wv d Ps)(a2:kZ Q.tbs R.rows.length d Ps)(ag:lo<=w.heap.size)(aM:R.qx<1048576)(P:nX g wd mr first d R=some (R',a,b)):
  Calls prog 165 #[(π B),wv,.bool first] w λe M=>Mh lo w own B wv R R' a wd mr mx Q b e M:=by
 obtain⟨G,Z,hA,O⟩:∃G Z,kS g wd mr first d (qD {R with qx:=R.qx+1})=some (G,Z)/\(Z=false/\G=R'/\d=a/\false=b∨Z=true/\G=R'/\gR g wd G.qp d=some a/\true=b):=by
  unfold nX at P;split at P;cases P;rename_i G hA;simp only[zr,yc] at P;exact⟨G,false,hA,zh ⟨rfl,P⟩⟩;rename_i G hA;rw[vK] at P;obtain⟨aK,h1,h2⟩:=P;simp only[yc] at h2;obtain⟨h3,h4,h5⟩:=h2;subst h4;exact⟨G,true,hA,ze ⟨rfl,h3,h1,h5⟩⟩
 obtain⟨hl,hf,h0,h1,h2,h3,h4,h5,h6,h7⟩:=h.at;have a4:zc [B] w (w.setCell ⟨B,2,none⟩ (ι ((R.qx:Int)+1))):=zc.set _ _ _ _;have ao:R9 lo (gO [214]) w own (w.setCell ⟨B,2,none⟩ (ι ((R.qx:Int)+1))) own:=R9.set own h.box h.low (xC.2 rfl) _ _;have x:=h.box.set 2 (ι ((R.qx:Int)+1));have ak:=h.rebox (R':={R with qx:=R.qx+1}) a4 (by simpa using x) rfl rfl ⟨h.few.2.2.1,by show R.qx+1<=1048576;omega⟩;have a8:=Ry (SE _ own B _ wd mr mx Q ak (by simpa [World.setCell] using ag));have am:=Ry ao;have al:=Ry hw;have af:=Ry a2;have a5:=Ry ag;have HE:=Ry O;have HA:Hid (kS g wd mr first (d.drop 0) (qD {R with qx:=R.qx+1})=some (G,Z)):=hA;have aJ:=hw.few;obtain⟨ac,C,aG⟩:=zq hw.arr;subst aG;clear P h hw a2 ag O hA ak ao a4 x h0 h1 h3 h4 h5 h6 h7;go_enter func165,ntmps165;go_upto_region 4 with (first|(go_at_call 120;refine a8.out.mono ?_;rintro e w2 ⟨rfl,fv,aC,an,hm⟩))
 have ab:=am.out.trans hm;have ay:=Ry (al.out.types ab (by decide));have aq:=Ry an;have aj:Hid (R9 lo uY w own w2 own):=ab.more λ_ _ q=>EZ q;clear ab hm an a8 am;go_loopw [22] (λaF wr=>∃m:Nat,m<=d.length/\aF=ι m/\∃v o H,Hid (zY lo wr o B v wd mr mx ⟨Q.rv,Q.tbs,fv,H⟩)/\Hid (ux lo wr o wd (.slice ac d.length C) d Ps)/\Hid (R9 lo uY w own wr o)/\Hid (v.rows.length=R.rows.length)/\Hid (jS v)/\Hid (kS g wd mr first (d.drop m) v=some (G,Z))) (λi _=>d.length-(intOf i).toNat);exact⟨0,zv _,rfl,_,own,aC,aq,ay,aj,rfl,jS.clear _,HA⟩;clear HA aq ay aj;obtain⟨m,hm,rfl,v,o,H,u,l,s,X,a7,ad⟩:=hrel;have U:=s.out.size;have y:=zZ a5.out U;by_cases k:m<d.length
 .have t:m<Ps.length:=by rw[al.out.plen];exact k
  obtain⟨gw,ai,c,T,_,x,J⟩:=l.out.at m k t;simp only[Value.slice.injEq] at T;have aa:=T.1;clear T;subst aa;have z:=ad.out;rw[xh k] at z;unfold kS at z;rcases ha:kG g wd mr first v d[m] with _|ar;rw[ha] at z;cases z;obtain⟨R3,b3⟩:=ar;rw[ha] at z;have W:Hid (jS R3/\R3.rows.length=R.rows.length):=⟨(FW ha).1 a7.out,(FW ha).2.trans X.out⟩;have ax:=Ry (Mc wr o B gw (m*8) m c v R3 d[m] Ps[m] wd mr mx _ g first b3 u.out (l.out.work m k t) x J (by rw[X.out];exact af.out m k t) y ha);have a9:(m:Int)<(d.length:Int):=by omega
  generalize d[m].rule.head.pred=p at *;clear ha x J;cases b3
  .simp only[zr,yc] at z;have HQ:=Ry z;clear z;go_wp2_with (go_at_call 193;refine ax.out.mono ?_;rintro e w4 ⟨rfl,f,I,r,K⟩)
   go_ret;have O:=HE.out;rw[←HQ.out.2,←HQ.out.1] at O;rcases O with⟨_,rfl,rfl,rfl⟩|⟨hx,_⟩
   exact⟨rfl,f,fv,I,Ps,r,l.out.all K,af.out,W.out.2,s.out.trans (K.more λ_ _ q=>iy q)⟩;cases hx
  have HQ:Hid (kS g wd mr first (d.drop (m+1)) R3=some (G,Z)):=z;clear z;go_wp2_with (go_at_call 193;refine ax.out.mono ?_;rintro e w4 ⟨rfl,f,I,r,K⟩)
  exact⟨⟨m+1,by omega,by go_num,R3,f,I,r,l.out.all K,s.out.trans (K.more λ_ _ q=>iy q),W.out.2,W.out.1,HQ⟩,by simp[intOf];omega⟩
 obtain rfl:m=d.length:=by omega
 have z:=ad.out;rw[List.drop_length] at z;simp only[kS,zr,yc] at z;have O:=HE.out;rw[←z.2,←z.1] at O;have N:Hid (v=R'/\gR g wd v.qp d=some a/\true=b):=by
  rcases O with⟨hx,_⟩|⟨_,hx⟩
  cases hx;exact hx
 clear z O ad HE;go_upto_region 10 with fail
 obtain⟨av,a3⟩:=BC N.out.2.1;have E:=Ry av;have aD:=Ry a3;clear av a3 k hm;obtain⟨F,n,ap⟩:=zq u.out.qp;dsimp only at ap;subst ap;have aL:=Ry y;clear U y;generalize aI:wr=w5 at *;clear aI;go_loopw [35] (λaH wr=>∃m:Nat,m<=d.length/\aH=ι m/\∃j D,Hid (zY lo wr j B v wd mr mx ⟨Q.rv,Q.tbs,.slice F v.qp.length n,H⟩)/\Hid (ux lo wr j wd (.slice ac d.length C) (vc a d m) D)/\Hid (kZ Q.tbs R.rows.length (vc a d m) D)/\Hid (R9 lo uY w own wr j)) (λi _=>d.length-(intOf i).toNat);exact⟨0,zv _,rfl,o,Ps,u,l,af,s⟩;clear u l s;obtain⟨m,hm,rfl,j,D,u,l,ah,s⟩:=hrel;have y:=zZ a5.out s.out.size;by_cases k:m<d.length
 .have A:m<(vc a d m).length:=by rw[et E.out m hm];exact k
  have V:m<a.length:=by rw[E.out];exact k
  have Y:=AP E.out m k A;have au:=AY E.out m k V;have t:m<D.length:=by rw[l.out.plen];exact A
  obtain⟨gw,ai,c,T,_,x,J⟩:=l.out.at m A t;rw[et E.out m hm] at T;simp only[Value.slice.injEq] at T;have aa:=T.1;clear T;subst aa;obtain⟨vs,az,a1⟩:=aD.out m k V;have a9:(m:Int)<(d.length:Int):=by omega
  have a6:=u.out.at;obtain⟨hl,hf,h0,h1,aE,h3,h4,h5,h6,h7⟩:=a6;have aA:Hid (∀W0,μ wr W0->Calls prog 194 #[.pointer (some ⟨gw,m*8,none⟩),.slice F v.qp.length n] W0 λe M=>e=ε (.tuple #[])/\M.cell? ⟨B,7,none⟩=some (.slice F v.qp.length n)/\Hid (∃f L,zY lo M f B v wd mr mx ⟨Q.rv,Q.tbs,.slice F v.qp.length n,H⟩/\ux lo M f wd (.slice (some ⟨gw,0,none⟩) d.length C) (vc a d (m+1)) L/\kZ Q.tbs R.rows.length (vc a d (m+1)) L/\R9 lo uY w own M f)):=λW0 hb=>by
   have aw:=l.out.below hb;have q:=LN W0 j B gw (m*8) m c v (vc a d m)[m] vs D[m] wd mr mx _ g (u.out.below hb) (aw.work m A t) (x.below hb) J (zZ y hb.size) a7.out (by rw[Y];exact az);refine q.mono ?_;rintro e M ⟨rfl,f,a0,aB,ae⟩;have r:=(u.out.below hb).work ae;have r1:=aw.renewed A t aB ae;have r2:=ah.out.set A t vs ⟨D[m].tv,D[m].pv,D[m].nv,D[m].vv,D[m].ntv,a0,D[m].nbs⟩ rfl;have e2:(⟨(vc a d m)[m].rule,vs⟩:yb)=a[m]:=by rw[Y,a1]
   rw[e2,au] at r1 r2;exact⟨rfl,r.at.2.2.2.2.2.2.2.2.2,f,_,r,r1,r2,(s.out.trans (R9.of j hb)).trans (ae.more λ_ _ q=>Ed q)⟩
  clear x J az a1 Y au A V t h0 h1 aE h3 h4 h5 h6;have x7:wr.cell? ⟨B,7,none⟩=some (.slice F v.qp.length n):=h7;clear h7;go_upto_region 12 with fail
  go_region_held3 (λM=>M.cell? ⟨B,7,none⟩=some (.slice F v.qp.length n)) (first|go_keep|(go_simp;done)) (first|(go_at_call 194;refine(aA.out _ (by exact(zI (zp _ _) 1))).mono ?_;rintro e w2 ⟨rfl,y1,HX⟩))
  clear x7 y1 aA;go_wp2;obtain⟨f,L,z1,z2,z3,z4⟩:=HX.out;exact⟨⟨m+1,by omega,by go_num,f,L,z1,z2,z3,z4⟩,by simp[intOf];omega⟩
 obtain rfl:m=d.length:=by omega
 have S:vc a d d.length=a:=by simp[vc,←E.out]
 have HF:Hid (ux lo wr j wd (.slice ac d.length C) a D/\kZ Q.tbs R.rows.length a D):=by rw[←S];exact⟨l.out,ah.out⟩
 clear S l ah;go_wp2;go_ret;exact⟨by rw[←N.out.2.2];rfl,j,_,H,D,by rw[←N.out.1];exact u.out,HF.out.1,HF.out.2,by rw[←N.out.1];exact X.out,s.out⟩
end
section
variable {lo:Nat}{w w' w0:World}{own' own0:Nat->zn}{wd t5 t3:Nat}{r:zs}{P:xe}{vs:List yF}
def fO(k:Nat):TypeId->zn->Prop:=λt ρ=>fj k t ρ∨(t=301/\ρ=(0,0,5))
def G0{k i:Nat}{t:TypeId}{ρ:zn}(h:l3 k i (0,0,5) t ρ):fO k t ρ:=by
 rcases h with⟨b,j,a⟩|h
 exact zh (zh ⟨b,i,j,a⟩);exact ze h
def nG{k:Nat}{t:TypeId}(h:Su t)(a:t≠301):∀ρ,¬fO k t ρ:=λρ q=>by
 rcases q with q|q
 .exact lK h a ρ q
 .exact a q.1
def An{k:Nat}{t:TypeId}{a b c:Nat}(h:a≠k+1)(d:c≠5):¬fO k t (a,b,c):=λq=>by
 rcases q with q|⟨_,q⟩
 .exact pY h q
 .simp at q;omega
def Le{k:Nat}{t:TypeId}{ρ:zn}(h:fO k t ρ):uY t ρ:=by
 rcases h with h|⟨rfl,_⟩;exact Ed h;exact ze (by decide)
def zY.make{own:Nat->zn}{a:Nat}{R:zu}{mr mx k:Nat}{Q:um}(h:zY lo w own a R wd mr mx Q)(m:R9 lo (fO k) w own w' own'):zY lo w' own' a R wd mr mx Q:=
 h.mod m (nG (by decide) (by decide)) (nG (by decide) (by decide)) (nG (by decide) (by decide)) (λ_=>An (by omega) (by omega)) (λ_ _ _=>An (by omega) (by omega))
def R9.newer{ok:TypeId->zn->Prop}{w wr w':World}{own a:Nat->zn}{M:List Nat}(h:R9 lo ok w own wr a)(hs:zc M wr w')(g:∀b∈M,w.heap.size<=b):R9 lo ok w own w' a:=by
 obtain⟨e,N,f,c⟩:=h;exact⟨e,N,f.newer hs λx d=>ze (g x d),c⟩
def R9.qp{ok:TypeId->zn->Prop}{own:Nat->zn}(c:μ w w')(a:∀b,b<w.heap.size->own' b=own b):R9 lo ok w own w' own':=⟨a,[],zc.of c,by simp⟩
structure js (lo:Nat) (w0 w:World) (own0 own:Nat->zn) (k wd t5 t3:Nat) (r:zs) (P:xe) (vs:List yF):Prop where
 low:w0.heap.size<=t5
 low0:lo<=w0.heap.size
 box:Rz w t5 (qZ r P).toArray 292
 rbox:Rz w t3 #[ι r.qh,ι r.vars,ι r.head.pred,P.tv,P.pv,P.nv] 207
 rule:vx lo w P.tv P.pv P.nv r
 qm:w.ownsRow lo 301 6 P.vv vs.length (vW wd vs P.vps)
 vlen:P.vps.length=vs.length
 view:∀i (_:i<vs.length) (_:i<P.vps.length),vE lo w own k i vs[i] P.vps[i]
 vrole:∀b,P.vv.ownBlock=some b->own b=(k+1,0,9)
 qw:w.ownsRow lo 162 1 P.ntv P.nbs.length (RO P.nbs)
 mod:R9 lo (fO k) w0 own0 w own
def js.step{own:Nat->zn}{k:Nat}(h:js lo w0 w own0 own k wd t5 t3 r P vs)(m:R9 lo (l3 k vs.length (0,0,5)) w own w' own'):js lo w0 w' own0 own' k wd t5 t3 r P vs:=by
 refine⟨h.low,h.low0,h.box.mod m (gu (by decide) (by decide) _),h.rbox.mod m (gu (by decide) (by decide) _),h.rule.mod m (gu (by decide) (by decide)) (gu (by decide) (by decide)),r9 h.qm m (λb c q=>?_),h.vlen,λi a b=>(h.view i a b).mod m (λj t d q=>?_) (gu (by decide) (by decide)),λb c=>(m.old b (yA h.qm c)).trans (h.vrole b c),vC h.qw m (gu (by decide) (by decide)),h.mod.trans (m.more λ_ _ q=>G0 q)⟩;rw[h.vrole b c] at q;rcases q with q|q;exact q.1 (by decide);simp at q;rcases q with⟨_,f,q⟩|⟨e,_⟩
 simp at q;omega;subst e;exact d (by decide)
def js.below{own:Nat->zn}{k:Nat}(h:js lo w0 w own0 own k wd t5 t3 r P vs)(a:μ w w'):js lo w0 w' own0 own k wd t5 t3 r P vs:=h.step (R9.of own a)
def Mg(wd:Nat):∀(vs:List yF) (ps:List j6),ps.length=vs.length->∀(V:yF) (p:j6),vW wd (vs++[V]) (ps++[p])=vW wd vs ps++gI wd V p:=λvs ps h V p=>by
 simp[vW,List.zipWith_append (h.symm)]
def js.pushV{own:Nat->zn}{k:Nat}{V:yF}{p:j6}{v':Value}(h:js lo w0 w own0 own k wd t5 t3 r P vs)(B:vE lo w own k vs.length V p)(G:w'.ownsRow lo 301 6 v' (vs.length+1) (vW wd vs P.vps++gI wd V p))(hs:zc P.vv.ownBlock.toList w w')(x:v'.ownBlock=P.vv.ownBlock∨∃g,v'.ownBlock=some g/\w.heap.size<=g):
  js lo w0 (w'.setCell ⟨t5,6,none⟩ v') own0 (ext own w.heap.size (k+1,0,9)) k wd t5 t3 r ⟨P.tv,P.pv,P.nv,v',P.ntv,P.vps++[p],P.nbs⟩ (vs++[V]):=by
 have f:R9 lo (λt ρ=>t=301/\ρ=(k+1,0,9)) w own w' (ext own w.heap.size (k+1,0,9)):=⟨λb d=>dO _ _ _ b d,_,hs,λb d=>by
  have l:P.vv.ownBlock=some b:=by simpa using d
  obtain⟨c,E⟩:=jL h.qm l;exact⟨yX h.qm l,yA h.qm l,c,_,E,rfl,h.vrole b l⟩⟩
 have o:∀t,t≠301->∀ρ,¬(t=301/\ρ=(k+1,0,9)):=λt y ρ q=>y q.1;have m:=h.box.mod f (o _ (by decide) _);have n:=h.rbox.mod f (o _ (by decide) _);have e:zc [t5] w' (w'.setCell ⟨t5,6,none⟩ v'):=zc.set _ _ _ _;have u:=RL.box m;have v:=λi V p (q:vE lo w own k i V p)=>(q.mod f (λj t y q=>by obtain⟨rfl,_⟩:=q;exact y (by decide)) (o _ (by decide))).saveT e u (by decide) (by decide);refine⟨h.low,h.low0,?_,n.saveT e u (by decide),(h.rule.mod f (o _ (by decide)) (o _ (by decide))).saveT e u (by decide) (by decide),?_,by simp[h.vlen],λi a b=>?_,λb d=>?_,yI (vC h.qw f (o _ (by decide))) e u (by decide),(h.mod.trans (f.more λ_ _ q=>zh (ze q))).newer e λb d=>by simp at d;rw[d];exact h.low⟩;have q:=m.set 6 v';simpa [qZ] using q;rw[Mg wd vs P.vps h.vlen,yC];exact yI G e u (by decide);simp only[yC,xr,g5] at a b;by_cases z:i<vs.length;have s:i<P.vps.length:=by rw[h.vlen];exact z
 rw[uD z,uD s];exact v i _ _ (h.view i z s);obtain rfl:i=vs.length:=by omega
 have F:(vs++[V])[vs.length]=V:=by simp
 have C:(P.vps++[p])[vs.length]=p:=by simp[←h.vlen]
 rw[F,C];exact v _ _ _ B;rcases x with x|⟨g,A,D⟩;rw[x] at d;rw[dO _ _ _ b (yA h.qm d)];exact h.vrole b d;rw[A] at d;simp at d;subst d;simp[ext,Nat.not_lt.2 D]
def js.pushN{own:Nat->zn}{k tb:Nat}{v':Value}(h:js lo w0 w own0 own k wd t5 t3 r P vs)(g:∀b,P.ntv.ownBlock=some b->w0.heap.size<=b)(m:w'.ownsRow lo 162 1 v' (P.nbs.length+1) (RO P.nbs++[(π tb)]))(hs:zc P.ntv.ownBlock.toList w w'):
  js lo w0 (w'.setCell ⟨t5,7,none⟩ v') own0 own k wd t5 t3 r ⟨P.tv,P.pv,P.nv,P.vv,v',P.vps,P.nbs++[tb]⟩ vs:=by
 have d:=RL.own h.qw;have f:=h.box.saveT hs d (by decide);have c:zc [t5] w' (w'.setCell ⟨t5,7,none⟩ v'):=zc.set _ _ _ _;have j:=RL.box f;refine⟨h.low,h.low0,?_,(h.rbox.saveT hs d (by decide)).saveT c j (by decide),(h.rule.saveT hs d (by decide) (by decide)).saveT c j (by decide) (by decide),yI (yI h.qm hs d (by decide)) c j (by decide),h.vlen,λi a b=>((h.view i a b).saveT hs d (by decide) (by decide)).saveT c j (by decide) (by decide),h.vrole,?_,(h.mod.newer hs λb l=>g b (by simpa using l)).newer c λb l=>by simp at l;rw[l];exact h.low⟩;have q:=f.set 7 v';simpa [qZ] using q;have e:RO (P.nbs++[tb])=RO P.nbs++[(π tb)]:=by simp[RO,pt]
 rw[e,yC];exact yI m c j (by decide)
def Fi{f wd:Nat}{R:zu}:∀{c:List zw} {vs:List yF},d8 f wd R c=some vs->vs.length=c.length/\∀i (d:i<c.length) (e:i<vs.length),∃a,rowsG f (ly wd R c[i].pred)=some a/\dU f wd (kR wd c[i]) a=some vs[i]
 |[],vs,h=>by
  simp[d8] at h;subst h;exact⟨rfl,λi h=>by simp at h⟩
 |l::c,vs,h=>by
  unfold d8 at h;split at h
  .cases h
  .rename_i a b;split at h
   .rename_i v j m g;simp at h;subst h;obtain⟨n,k⟩:=Fi g;refine⟨by simp[n],λi d e=>?_⟩;match i,d,e with
    |0,_,_=>exact⟨a,b,m⟩
    |i+1,d,e=>
     simp only[pd];exact k i (by simpa using d) (by simpa using e)
   .cases h
end
section
open Go.Proofs.Tryz
variable {lo:Nat}{ownk own1:Nat->zn}{wd:Nat}
def LO(lo:Nat)(w:World)(own:Nat->zn)(k wd:Nat)(r:zs)(vs:List yF)(b:List Nat)(n:Nat)(e:Ending)(w':World):Prop:=∃P a,e=ε (.agg (qZ r P).toArray)/\uo lo w' a k wd ⟨r,vs⟩ P/\dD b n r P.nbs/\R9 lo (fO k) w own w' a
def z8:List Value:=[ι 0,ι 0,ι 0,ν,ν,ν,ν,ν]
def QZ:(prog.info? 301).map (λi=>(i.zero,i.size,i.bytes))=some (some (.agg #[ι 0,ν,ι 0,.pointer none,.pointer none,.pointer none]),6,64):=by kernel_rfl
def TF(c wd:Nat)(tv:Value)(d a b:Nat):Array Value:=#[ι c,tv,ι wd,(π d),(π a),(π b)]
structure T3 (lo:Nat) (wr W3:World) (ownk own2:Nat->zn) (k m wd g8:Nat) (l:zw) (tv:Value) (bb fb ab:Nat):Prop where
 view:vE lo W3 own2 k m (kR wd l) ⟨tv,bb,fb,ab⟩
 role:own2 g8=(0,0,5)
 old:∀b,b<wr.heap.size->own2 b=ownk b
 box:Rz W3 g8 (TF l.pred wd tv bb fb ab) 301
 lbox:Rz W3 wr.heap.size #[ι l.pred,tv] 204
 below:μ wr W3
 ge:wr.heap.size<=g8
def T3.one{wr d a:World}{k m:Nat}{l:zw}{tv:Value}{f g h:Nat}(e:μ wr d)(j:Rz d wr.heap.size #[ι l.pred,tv] 204)(c:μ d a)(p:vE lo a own1 k m (kR wd l) ⟨tv,f,g,h⟩)(o:∀b,b<d.heap.size->own1 b=ext ownk wr.heap.size (0,0,5) b):T3 lo wr (a.alloc (.cells (TF l.pred wd tv f g h) 301)) ownk (ext own1 a.heap.size (0,0,5)) k m wd a.heap.size l tv f g h:=by
 have i:μ a (a.alloc (.cells (TF l.pred wd tv f g h) 301)):=(zp _ _).alloc (zf _) _;have q:=e.size;have r:=c.size;refine⟨p.mod (R9.extNew (ok:=λ_ _=>False) own1 (0,0,5) i) (λ_ _ _=>id) (λ_=>id),by simp[ext],λb n=>?_,Rz.new _ _ _,(j.below c).below i,R5 (R5 e c) i,by omega⟩;rw[dO _ _ _ b (by omega),o b (by omega),dO _ _ _ b n]
def T3.two{wr a c:World}{k m:Nat}{l:zw}{tv:Value}{d e i:Nat}{z:Array Value}(j:μ wr a)(o:Rz a wr.heap.size #[ι l.pred,tv] 204)(h:Below (a.alloc (.cells z 301)).heap.size (a.alloc (.cells z 301)) c)(s:Rz c a.heap.size #[ι 0,ν,ι 0,.pointer none,.pointer none,.pointer none] 301)(A:vE lo c own1 k m (kR wd l) ⟨tv,d,e,i⟩)(u:∀b,b<(a.alloc (.cells z 301)).heap.size->own1 b=ext ownk wr.heap.size (0,0,5) b):T3 lo wr ((((((c.setCell ⟨a.heap.size,0,none⟩ (ι l.pred)).setCell ⟨a.heap.size,1,none⟩ tv).setCell ⟨a.heap.size,2,none⟩ (ι wd)).setCell ⟨a.heap.size,3,none⟩ ((π d))).setCell ⟨a.heap.size,4,none⟩ ((π e))).setCell ⟨a.heap.size,5,none⟩ ((π i))) ownk own1 k m wd a.heap.size l tv d e i:=by
 have r:=j.size;have q:μ a (a.alloc (.cells z 301)):=(zp _ _).alloc (zf _) _;have n:=zc.sets a.heap.size [ι l.pred,tv,ι wd,(π d),(π e),(π i)] 0 c;have p:=(((((s.set 0 (ι l.pred)).set 1 tv).set 2 (ι wd)).set 3 ((π d))).set 4 ((π e))).set 5 ((π i));have t:=RL.box s;have f:=R5 (R5 j q) h;have g:=(o.below q).below h;have v:(a.alloc (.cells z 301)).heap.size=a.heap.size+1:=by simp
 refine⟨A.saveT n t (by decide) (by decide),?_,λb w=>?_,by simpa [TF] using p,g.saveT n t (by decide),?_,r⟩;rw[u _ (by omega)];simp[ext,Nat.not_lt.2 r];rw[u b (by omega),dO _ _ _ b w];exact f.trans (n.below (λx y=>by simp at y;omega) (by have:=f.size;omega))
def js.done{f w w':World}{c own:Nat->zn}{k o n e:Nat}{l:Array Value}{r:zs}{P:xe}{vs:List yF}(h:js lo f w c own k wd o n r P vs)(g:Rz w e l 292)(p:f.heap.size<=e)(hs:zc [e] w w')(j:P.nbs.length=r.qw.length)(m:vs.length<=1000):uo lo w' own k wd ⟨r,vs⟩ P/\R9 lo (fO k) f c w' own:=by
 have d:=RL.box g;have q:=yI h.qw hs d (by decide);rw[j] at q;exact⟨⟨h.rule.saveT hs d (by decide) (by decide),yI h.qm hs d (by decide),h.vlen,λi a b=>(h.view i a b).saveT hs d (by decide) (by decide),h.vrole,q,j,m⟩,h.mod.newer hs λb g=>by simp at g;omega⟩
def GW{f:Nat}{T:zj}{a:List zi}(h:rowsG f T=some a):a.length<=1048577:=by
 unfold rowsG at h;split at h;cases h;split at h;simp at h;subst h;omega;cases h
def N0(w:World)(own:Nat->zn)(rb k:Nat)(R:zu)(r:zs)(tv pv nv:Value)(vs:List yF)(wd mr mx:Nat)(Q:um)(ar:Nat)(h:zY lo w own rb R wd mr mx Q)(hr:vx lo w tv pv nv r)(bk:lo<=w.heap.size)(aX:∀l∈r.qc,l.pred<R.rows.length)(ba:∀l∈r.qw,l.pred<R.rows.length/\l.pred≠r.head.pred)(hv:d8 ar wd R r.qc=some vs):
  Calls prog 192 #[(π rb),kQ r tv pv nv] w λe J=>LO lo w own k wd r vs Q.tbs R.rows.length e J:=by
 obtain⟨i0,hi,bV,bG,bK⟩:=info_parts QZ;obtain⟨i1,bI,aW,aT,bq⟩:=info_parts Rr;obtain⟨bs,bb⟩:=Fi hv;have aI:=Ry bs;have bD:=Ry bb;have HH:=Ry h;have bC:=Ry hr;have aK:=Ry bk;have bL:=Ry aX;have bw:=Ry ba;obtain⟨o,j,b4⟩:=hr.head.qy;obtain⟨u,d,b3⟩:=hr.qc.qy;obtain⟨s,f,b2⟩:=hr.qw.qy;have bJ:r.qc.length<=1000:=by obtain⟨_,_,_,q,_⟩:=hr.qc;exact q
 have cj:r.qw.length<=1000:=by obtain⟨_,_,_,q,_⟩:=hr.qw;exact q
 subst b4 b3 b2;clear h hr bk aX ba hv bs bb;simp only[kQ];go_enter func192,ntmps192;go_upto_region 3 with fail
 have P:μ w (((w.alloc (.cells #[ι r.qh,ι r.vars,ι r.head.pred,.slice o r.head.qg.length j,.slice u r.qc.length d,.slice s r.qw.length f] 207)).alloc (.cells #[ι 0,ι 0,ι 0,ν,ν,ν,ν,ν] 292)).alloc (.cells #[ι r.qh,ι r.vars,ι r.head.pred,.slice o r.head.qg.length j,.slice u r.qc.length d,.slice s r.qw.length f,ν,ν] 292)):=(by go_grown);have am:=((Rz.new w #[ι r.qh,ι r.vars,ι r.head.pred,.slice o r.head.qg.length j,.slice u r.qc.length d,.slice s r.qw.length f] 207).up (.cells #[ι 0,ι 0,ι 0,ν,ν,ν,ν,ν] 292)).up (.cells #[ι r.qh,ι r.vars,ι r.head.pred,.slice o r.head.qg.length j,.slice u r.qc.length d,.slice s r.qw.length f,ν,ν] 292);have az:=((Rz.new (w.alloc (.cells #[ι r.qh,ι r.vars,ι r.head.pred,.slice o r.head.qg.length j,.slice u r.qc.length d,.slice s r.qw.length f] 207)) z8.toArray 292).up (.cells #[ι r.qh,ι r.vars,ι r.head.pred,.slice o r.head.qg.length j,.slice u r.qc.length d,.slice s r.qw.length f,ν,ν] 292)).at' (b':=w.heap.size+1) (by simp);have aV:=(Rz.new ((w.alloc (.cells #[ι r.qh,ι r.vars,ι r.head.pred,.slice o r.head.qg.length j,.slice u r.qc.length d,.slice s r.qw.length f] 207)).alloc (.cells z8.toArray 292)) #[ι r.qh,ι r.vars,ι r.head.pred,.slice o r.head.qg.length j,.slice u r.qc.length d,.slice s r.qw.length f,ν,ν] 292).at' (b':=w.heap.size+1+1) (by simp);have x:js lo w (((w.alloc (.cells #[ι r.qh,ι r.vars,ι r.head.pred,.slice o r.head.qg.length j,.slice u r.qc.length d,.slice s r.qw.length f] 207)).alloc (.cells #[ι 0,ι 0,ι 0,ν,ν,ν,ν,ν] 292)).alloc (.cells #[ι r.qh,ι r.vars,ι r.head.pred,.slice o r.head.qg.length j,.slice u r.qc.length d,.slice s r.qw.length f,ν,ν] 292)) own own k wd (w.heap.size+1+1) w.heap.size r ⟨.slice o r.head.qg.length j,.slice u r.qc.length d,.slice s r.qw.length f,ν,ν,[],[]⟩ []:=⟨by omega,aK.out,aV,am,bC.out.below P,yW _ _ _ _,rfl,(λi a=>by simp at a),(λb I=>by cases I),yW _ _ _ _,R9.of own P⟩;have N:Hid (Rz (((w.alloc (.cells #[ι r.qh,ι r.vars,ι r.head.pred,.slice o r.head.qg.length j,.slice u r.qc.length d,.slice s r.qw.length f] 207)).alloc (.cells #[ι 0,ι 0,ι 0,ν,ν,ν,ν,ν] 292)).alloc (.cells #[ι r.qh,ι r.vars,ι r.head.pred,.slice o r.head.qg.length j,.slice u r.qc.length d,.slice s r.qw.length f,ν,ν] 292)) (w.heap.size+1) z8.toArray 292):=az;have a6:=Ry x;clear x am az aV P;generalize bz:((w.alloc (.cells #[ι r.qh,ι r.vars,ι r.head.pred,.slice o r.head.qg.length j,.slice u r.qc.length d,.slice s r.qw.length f] 207)).alloc (.cells #[ι 0,ι 0,ι 0,ν,ν,ν,ν,ν] 292)).alloc (.cells #[ι r.qh,ι r.vars,ι r.head.pred,.slice o r.head.qg.length j,.slice u r.qc.length d,.slice s r.qw.length f,ν,ν] 292)=w1 at *;clear bz;generalize h5:w.heap.size+1+1=t5 at *;generalize h4:w.heap.size+1=t4 at *;have aB:t4≠t5:=by omega
 have cg:w.heap.size<t4:=by omega
 clear h5 h4;go_loopw [18] (λbx wr=>∃m:Nat,m<=r.qc.length/\bx=ι m/\∃ownk vv al,Hid (js lo w wr own ownk k wd t5 w.heap.size r ⟨.slice o r.head.qg.length j,.slice u r.qc.length d,.slice s r.qw.length f,vv,ν,al,[]⟩ (vs.take m))/\Hid (Rz wr t4 z8.toArray 292)) (λi _=>r.qc.length-(intOf i).toNat);exact⟨0,zv _,rfl,own,_,[],a6,N⟩;clear a6 N;obtain⟨m,hm,rfl,ownk,vv,al,x,N⟩:=hrel;have ak:=x.out.mod.size;have aj:=zZ aK.out ak;by_cases af:m<r.qc.length
 .obtain⟨g,n,c,a7,hg,q0,q1,aQ⟩:=x.out.rule.qc.cell m af;subst a7;have aN:m<vs.length:=by rw[aI.out];exact af
  obtain⟨S,ag,ao⟩:=bD.out m af aN;have Z:=Ry (HH.out.make x.out.mod);have aa:r.qc[m].pred<R.rows.length:=bL.out _ (zt _);have aq:r.qc[m].pred<Q.tbs.length:=by rw[Z.out.tlen];exact aa
  have bm:Hid (∀F,μ wr F->Calls prog 204 #[.agg #[ι (r.qc[m].pred:Nat),.slice n r.qc[m].qg.length c],ι wd] F λe J=>∃K fb L own1,e=ε (.agg #[ι (r.qc[m].pred:Nat),.slice n r.qc[m].qg.length c,ι wd,(π K),(π fb),(π L)])/\Hid (vE lo J own1 k m (kR wd r.qc[m]) ⟨.slice n r.qc[m].qg.length c,K,fb,L⟩/\∀b,b<F.heap.size->own1 b=ext ownk wr.heap.size (0,0,5) b)/\μ F J):=λF I=>by
   refine(OK F (ext ownk wr.heap.size (0,0,5)) k m r.qc[m] (.slice n r.qc[m].qg.length c) wd (aQ.below I) (zZ aj I.size) Z.out.small.1).mono ?_;rintro e J ⟨⟨ce,K,fb,L⟩,own1,rfl,rfl,bU,bg,O⟩;exact⟨K,fb,L,own1,rfl,⟨bU,bg⟩,O⟩
  obtain⟨hl,hf,d0,d1,d2,d3,d4,d5,d6,d7⟩:=Z.out.at;have bv:(m:Int)<(r.qc.length:Int):=by omega
  clear d0 d1 d2 d3 d5 d6 d7;go_upto_region 5 with fail
  have P:μ wr (wr.alloc (.cells #[ι (r.qc[m].pred:Nat),.slice n r.qc[m].qg.length c] 204)):=(by go_grown);have an:=Rz.new wr #[ι (r.qc[m].pred:Nat),.slice n r.qc[m].qg.length c] 204;have bo:wr.heap.size<(wr.alloc (.cells #[ι (r.qc[m].pred:Nat),.slice n r.qc[m].qg.length c] 204)).heap.size:=by simp
  generalize bM:wr.alloc (.cells #[ι (r.qc[m].pred:Nat),.slice n r.qc[m].qg.length c] 204)=X at *;clear bM;have x4:=zl P hl d4;have x0:X.cell? ⟨wr.heap.size,0,none⟩=some (ι (r.qc[m].pred:Nat)):=by rw[an.rules.1];rfl
  have x1:X.cell? ⟨wr.heap.size,1,none⟩=some (.slice n r.qc[m].qg.length c):=by rw[an.rules.1];rfl
  have ax:Hid (∀F,μ X F->Calls prog 204 #[.agg #[ι (r.qc[m].pred:Nat),.slice n r.qc[m].qg.length c],ι wd] F λe J=>∃K fb L own1,e=ε (.agg #[ι (r.qc[m].pred:Nat),.slice n r.qc[m].qg.length c,ι wd,(π K),(π fb),(π L)])/\Hid (vE lo J own1 k m (kR wd r.qc[m]) ⟨.slice n r.qc[m].qg.length c,K,fb,L⟩/\∀b,b<F.heap.size->own1 b=ext ownk wr.heap.size (0,0,5) b)/\μ F J/\J.cell? ⟨rb,4,none⟩=some (ι wd)/\J.cell? ⟨wr.heap.size,0,none⟩=some (ι (r.qc[m].pred:Nat))/\J.cell? ⟨wr.heap.size,1,none⟩=some (.slice n r.qc[m].qg.length c)):=λF I=>by
   refine(bm.out F (R5 P I)).mono ?_;rintro e J ⟨K,fb,L,own1,rfl,HX,O⟩;have am:=R5 I O;exact⟨K,fb,L,own1,rfl,HX,O,(am.cell (by show rb<_;omega)).trans x4,(am.cell (by show wr.heap.size<_;omega)).trans x0,(am.cell (by show wr.heap.size<_;omega)).trans x1⟩
  clear bm;clear q0 q1 d4;go_region_held3 (λJ=>J.cell? ⟨rb,4,none⟩=some (ι wd)/\J.cell? ⟨wr.heap.size,0,none⟩=some (ι (r.qc[m].pred:Nat))/\J.cell? ⟨wr.heap.size,1,none⟩=some (.slice n r.qc[m].qg.length c)) (first|go_keep|(go_simp;done)) (first|(go_at_call 204;refine(ax.out _ (by exact(by go_grown))).mono ?_;rintro e w2 ⟨K,fb,L,own1,rfl,HX,O,y4,y0,y1⟩;(try (with_reducible refine Rz.carry (Rz.drew (Rz.new X #[ι 0,ν,ι 0,.pointer none,.pointer none,.pointer none] 301)) O ?_;intro aL;obtain⟨br,aP,aY⟩:=aL.boxed))))
  obtain⟨M,HP⟩:∃M,Hid (T3 lo wr (w2.alloc (.cells #[ι (r.qc[m].pred:Nat),.slice n r.qc[m].qg.length c,ι wd,(π K),(π fb),(π L)] 301)) ownk M k m wd w2.heap.size r.qc[m] (.slice n r.qc[m].qg.length c) K fb L):=⟨_,T3.one P an (R5 (zI (zp _ _) 1) O) HX.out.1 HX.out.2⟩;clear HX O y4 y0 y1 x4 x0 x1 P an bo ax;generalize w2.alloc (.cells #[ι (r.qc[m].pred:Nat),.slice n r.qc[m].qg.length c,ι wd,(π K),(π fb),(π L)] 301)=W3 at *;generalize w2.heap.size=g8 at *;rotate_left
  obtain⟨M,HP⟩:∃M,Hid (T3 lo wr ((((((w2.setCell ⟨X.heap.size,0,none⟩ (ι (r.qc[m].pred:Nat))).setCell ⟨X.heap.size,1,none⟩ (.slice n r.qc[m].qg.length c)).setCell ⟨X.heap.size,2,none⟩ (ι wd)).setCell ⟨X.heap.size,3,none⟩ ((π K))).setCell ⟨X.heap.size,4,none⟩ ((π fb))).setCell ⟨X.heap.size,5,none⟩ ((π L))) ownk M k m wd X.heap.size r.qc[m] (.slice n r.qc[m].qg.length c) K fb L):=⟨_,T3.two (z:=#[ι 0,ν,ι 0,.pointer none,.pointer none,.pointer none]) P an (R5 (zI (zp _ _) 1) O) aL HX.out.1 HX.out.2⟩;clear HX O y4 y0 y1 x4 x0 x1 P an bo ax aL br aP aY;generalize ((((((w2.setCell ⟨X.heap.size,0,none⟩ (ι (r.qc[m].pred:Nat))).setCell ⟨X.heap.size,1,none⟩ (.slice n r.qc[m].qg.length c)).setCell ⟨X.heap.size,2,none⟩ (ι wd)).setCell ⟨X.heap.size,3,none⟩ ((π K))).setCell ⟨X.heap.size,4,none⟩ ((π fb))).setCell ⟨X.heap.size,5,none⟩ ((π L)))=W3 at *;generalize X.heap.size=g8 at *
  all_goals
   have hP:=HP.out;have aA:=Ry λF I=>CY F ownk rb R wd mr mx Q _ (Z.out.below I) aa aq;have bP:Hid (∀F,μ wr F->Calls prog 78 #[.pointer (some ⟨Q.tbs[r.qc[m].pred],0,none⟩)] F λe J=>∃aw ac,e=ε (.slice aw S.length ac)/\Hid (RG F.heap.size J (.slice aw S.length ac) S)/\μ F J):=λF I=>by
    have q:=Fr F ownk (0,r.qc[m].pred,0) Q.tbs[r.qc[m].pred] R.rows[r.qc[m].pred] ar S ((Z.out.below I).tries _ aa aq) (by rw[←ag,ly,za (by omega)];simp[List.getD,aa]);refine q.mono ?_;rintro e J ⟨v,rfl,a0,aG⟩;obtain⟨aw,ac,rfl⟩:=zq a0.1;exact⟨aw,ac,rfl,a0,aG⟩
   have b1:Hid (∀W4 b0 rv,μ W3 W4->RG b0 W4 rv S->Calls prog 206 #[(π g8),rv] W4 λe J=>e=ε (.tuple #[])/\∃U E,Hid (vE lo J E k m vs[m] ⟨.slice n r.qc[m].qg.length c,K,U,L⟩/\R9 lo (l3 k m (0,0,5)) wr ownk J E)/\Rz J g8 #[ι (r.qc[m].pred:Nat),.slice n r.qc[m].qg.length c,ι wd,(π K),(π U),(π L)] 301):=λW4 b0 rv I a0=>by
    have z1:=HP.out.below.size;have q:=FC W4 M k m g8 0 wd ar (TF r.qc[m].pred wd (.slice n r.qc[m].qg.length c) K fb L) (kR wd r.qc[m]) vs[m] ⟨.slice n r.qc[m].qg.length c,K,fb,L⟩ rv S (HP.out.box.below I) ⟨rfl,rfl,rfl,rfl,rfl,rfl⟩ (HP.out.view.below I) a0 (by have:=HP.out.ge;omega) (by have:=I.size;omega) Z.out.small.1 (GW ag) ao;refine q.mono ?_;rintro e J ⟨rfl,U,E,bQ,aG,be⟩;rw[HP.out.role] at be;exact⟨rfl,U,E,⟨bQ,((R9.qp HP.out.below HP.out.old).trans (R9.of M I)).trans be⟩,by simpa [TF] using aG⟩
   have ai:(vs.take m).length=m:=by simp;omega
   have bW:Hid (∀w5 E,R9 lo (l3 k m (0,0,5)) wr ownk w5 E->js lo w w5 own E k wd t5 w.heap.size r ⟨.slice o r.head.qg.length j,.slice (some ⟨g,0,none⟩) r.qc.length d,.slice s r.qw.length f,vv,ν,al,[]⟩ (vs.take m)/\Rz w5 t4 z8.toArray 292):=λw5 E bf=>⟨x.out.step (by rw[ai];exact bf),N.out.mod bf (gu (by decide) (by decide) _)⟩;have a1:=Ry ai;obtain⟨y,t,T⟩:=zq x.out.qm;dsimp only at T;rw[ai] at T;subst T;have bp:=hP.below;have bd:=hP.lbox;obtain⟨bX,bY,bZ⟩:=bd.boxed;have bu:=Ry bp;have bT:Hid (vs[m].lit.pred=r.qc[m].pred):=show vs[m].lit.pred=r.qc[m].pred by rw[En ao];rfl
   have b9:=Ry (yP aN);clear hP bp bd ai ao ag;generalize bS:vs[m]=V' at *;clear bS;generalize Q.tbs[r.qc[m].pred]=tb at *;generalize r.qc[m].pred=vp at *;generalize r.qc[m].qg.length=vt at *;go_wp2_with (first|(go_at_call 205;refine(aA.out _ bu.out).mono ?_;rintro e w4 ⟨rfl,aM⟩;obtain rfl:=aM.symm)|(go_at_call 78;refine(bP.out _ bu.out).mono ?_;rintro e w4 ⟨aw,ac,rfl,bE,az⟩)|(go_at_call 206;refine(b1.out _ _ _ az bE.out).mono ?_;rintro e w5 ⟨rfl,U,E,aO,aZ⟩;obtain⟨D,a3⟩:=bW.out _ _ aO.out.2;have G:Rz w5 t5 #[ι r.qh,ι r.vars,ι r.head.pred,.slice o r.head.qg.length j,.slice (some ⟨g,0,none⟩) r.qc.length d,.slice s r.qw.length f,.slice y m t,ν] 292:=D.box;obtain⟨aH,a9,aF⟩:=G.boxed;obtain⟨cf,cl,cc⟩:=aZ.boxed;have ab:=D.qm;have C:=Ry D;have au:=Ry a3;clear D a3 G aZ)|(at_builtin;refine ko w5 _ [ι vp,.slice n vt c,ι wd,(π K),(π U),(π L)] _ rfl (.tmp 36) (.tmp 38) 290 rfl lo 301 i0 _ 6 64 underlying290 hi bV bG bK rfl (by decide) (.slice y m t) (vs.take m).length (vW wd (vs.take m) al) rfl ab (by exact(by go_grown)) _ _ rfl (by simp) rfl (by simp[Value.oneCell']) (by rw[a1.out];omega) (by rw[a1.out];omega) (by exact(zZ C.out.low0 C.out.mod.size)) ?_;intro v' w6 ae Y ap;obtain⟨bc,aD,ah⟩:=zq ae;rw[a1.out] at ah;subst ah;have ad:Rz w6 t5 #[ι r.qh,ι r.vars,ι r.head.pred,.slice o r.head.qg.length j,.slice (some ⟨g,0,none⟩) r.qc.length d,.slice s r.qw.length f,.slice y m t,ν] 292:=C.out.box.saveT Y (RL.own C.out.qm) (by decide);obtain⟨b5,bO,b6⟩:=ad.boxed;have av:=Ry (au.out.saveT Y (RL.own C.out.qm) (by decide));have aJ:Hid (zc _ w5 w6):=Y;have a8:Hid (_∨_):=ap;have aE:Hid (World.ownsRow w6 lo 301 6 _ _ _):=ae;clear Y ap ae ad))
   have bB:gI wd V' ⟨.slice n vt c,K,U,L⟩=[ι vp,.slice n vt c,ι wd,(π K),(π U),(π L)]:=by simp[gI,bT.out,pt]
   have W:=C.out.pushV (V:=V') (p:=⟨.slice n vt c,K,U,L⟩) (by rw[a1.out];exact aO.out.1) (by rw[bB];exact aE.out) aJ.out a8.out;rw[←b9.out] at W;exact⟨⟨m+1,by omega,by go_num,_,_,_,W,av.out.set_ne aB _ _⟩,by simp[intOf];omega⟩
 obtain rfl:m=r.qc.length:=by omega
 have aS:vs.take r.qc.length=vs:=by rw[←aI.out];exact uR
 rw[aS] at x;clear aS;obtain⟨y,t,T⟩:=zq x.out.qm;dsimp only at T;subst T;obtain⟨aR,bF,bA⟩:=x.out.rbox.boxed;dsimp only at aR;go_upto_region 11 with fail
 clear aR bF bA hm af;have cd:=Ry aj;clear ak aj;generalize bN:wr=w5 at *;clear bN;go_loopw [45] (λb8 wr=>∃m:Nat,m<=r.qw.length/\b8=ι m/\∃aC B,Hid (js lo w wr own ownk k wd t5 w.heap.size r ⟨.slice o r.head.qg.length j,.slice u r.qc.length d,.slice s r.qw.length f,.slice y vs.length t,aC,al,B⟩ vs)/\Hid (Rz wr t4 z8.toArray 292)/\Hid (B.length=m)/\Hid (dD Q.tbs R.rows.length r B)/\Hid (∀b,aC.ownBlock=some b->w.heap.size<=b)) (λi _=>r.qw.length-(intOf i).toNat);exact⟨0,zv _,rfl,_,[],x,N,rfl,λi _ h2=>by simp at h2,λb I=>by cases I⟩;clear x N;obtain⟨m,hm,rfl,aC,B,x,N,ay,bh,bi⟩:=hrel;have ak:=x.out.mod.size;have aj:=zZ aK.out ak;obtain⟨H,A,a5⟩:=zq x.out.qw;dsimp only at a5;subst a5;by_cases af:m<r.qw.length
 .obtain⟨g,n,c,a7,hg,q0,q1,aQ⟩:=x.out.rule.qw.cell m af;subst a7;have Z:=Ry (HH.out.make x.out.mod);have aa:=bw.out _ (zt af);have aq:r.qw[m].pred<Q.tbs.length:=by rw[Z.out.tlen];exact aa.1
  have aA:=Ry λF I=>CY F ownk rb R wd mr mx Q _ (Z.out.below I) aa.1 aq;have bH:Hid (dD Q.tbs R.rows.length r (B++[Q.tbs[r.qw[m].pred]])):=λi h1 h2=>by
   by_cases hi:i<B.length;have q:=bh.out i h1 hi;rw[uD hi];exact q;obtain rfl:i=m:=by have:=ay.out;simp at h2;omega
   refine⟨aa.2,aa.1,aq,?_⟩;rw[l5 (by omega)];simp
  have a2:μ wr (wr.alloc (.cells #[ι (r.qw[m].pred:Nat),.slice n r.qw[m].qg.length c] 204)):=(by go_grown);have D:=x.out.below a2;have G:Rz (wr.alloc (.cells #[ι (r.qw[m].pred:Nat),.slice n r.qw[m].qg.length c] 204)) t5 #[ι r.qh,ι r.vars,ι r.head.pred,.slice o r.head.qg.length j,.slice u r.qc.length d,.slice (some ⟨g,0,none⟩) r.qw.length f,.slice y vs.length t,.slice H B.length A] 292:=D.box;obtain⟨aH,a9,aF⟩:=G.boxed;have ab:=D.qw;dsimp only at ab;have C:=Ry D;have au:=Ry (N.out.below a2);have b7:=Ry a2;have bv:(m:Int)<(r.qw.length:Int):=by omega
  have cb:B.length<=1000:=by rw[ay.out];omega
  clear D G a2;generalize Q.tbs[r.qw[m].pred]=tb at *;generalize r.qw[m].pred=vp at *;generalize r.qw[m].qg.length=vt at *;generalize bn:B.length=nl at *;have aU:=Ry bn;clear bn;go_upto_region 14 with (first|(go_at_call 205;refine(aA.out _ b7.out).mono ?_;rintro e w4 ⟨rfl,aM⟩;obtain rfl:=aM.symm))
  generalize wr.alloc (.cells #[ι vp,.slice n vt c] 204)=W5 at *;go_wp2_with (at_builtin;refine ko W5 _ [(π tb)] _ rfl (.tmp 54) (.tmp 56) 150 rfl lo 162 i1 _ 1 8 underlying150 bI aW aT bq rfl (by decide) (.slice H nl A) nl (RO B) rfl ab (by exact(by go_grown)) _ _ rfl (by simp) rfl (by simp[Value.oneCell']) (by omega) (by omega) (by exact(zZ C.out.low0 C.out.mod.size)) ?_;intro v' w6 ae Y ap;obtain⟨bc,aD,ah⟩:=zq ae;subst ah;have ad:Rz w6 t5 #[ι r.qh,ι r.vars,ι r.head.pred,.slice o r.head.qg.length j,.slice u r.qc.length d,.slice (some ⟨g,0,none⟩) r.qw.length f,.slice y vs.length t,.slice H nl A] 292:=C.out.box.saveT Y (RL.own C.out.qw) (by decide);obtain⟨b5,bO,b6⟩:=ad.boxed;have av:=Ry (au.out.saveT Y (RL.own C.out.qw) (by decide));have aJ:Hid (zc _ W5 w6):=Y;have a8:Hid (_∨_):=ap;have aE:Hid (World.ownsRow w6 lo 162 1 _ _ _):=ae;clear Y ap ae ad)
  have W:=C.out.pushN (tb:=tb) bi.out (by rw[aU.out];exact aE.out) aJ.out;exact⟨⟨m+1,by omega,by go_num,_,_,W,av.out.set_ne aB _ _,show(B++[tb]).length=m+1 by simp[aU.out,ay.out],bH,λb I=>by
   rcases a8.out with e|⟨g',e,ca⟩;rw[e] at I;exact bi.out b I;rw[e] at I;simp at I;have:=C.out.mod.size;omega⟩,by simp[intOf];omega⟩
 obtain rfl:m=r.qw.length:=by omega
 have G:Rz wr t5 #[ι r.qh,ι r.vars,ι r.head.pred,.slice o r.head.qg.length j,.slice u r.qc.length d,.slice s r.qw.length f,.slice y vs.length t,.slice H B.length A] 292:=x.out.box;obtain⟨aH,a9,aF⟩:=G.boxed;have a4:Rz wr t4 #[ι 0,ι 0,ι 0,ν,ν,ν,ν,ν] 292:=N.out;obtain⟨bR,ck,ch⟩:=a4.boxed;have ci:t5≠t4:=λe=>aB e.symm;clear G a4;go_wp2
 (try simp only[Exit.inBlock,Exit.then])
 have bt:zc [t4] wr ((((((((wr.setCell ⟨t4,0,none⟩ (ι r.qh)).setCell ⟨t4,1,none⟩ (ι r.vars)).setCell ⟨t4,2,none⟩ (ι r.head.pred)).setCell ⟨t4,3,none⟩ (.slice o r.head.qg.length j)).setCell ⟨t4,4,none⟩ (.slice u r.qc.length d)).setCell ⟨t4,5,none⟩ (.slice s r.qw.length f)).setCell ⟨t4,6,none⟩ (.slice y vs.length t)).setCell ⟨t4,7,none⟩ (.slice H B.length A)):=zc.sets t4 [ι r.qh,ι r.vars,ι r.head.pred,.slice o r.head.qg.length j,.slice u r.qc.length d,.slice s r.qw.length f,.slice y vs.length t,.slice H B.length A] 0 wr;have hd:=x.out.done N.out (by omega) bt ay.out (by rw[aI.out];exact bJ);have HD:Hid (_/\_):=hd;clear hd bt;refine zO (v:=.agg #[ι r.qh,ι r.vars,ι r.head.pred,.slice o r.head.qg.length j,.slice u r.qc.length d,.slice s r.qw.length f,.slice y vs.length t,.slice H B.length A]) ?_ rfl ⟨⟨.slice o r.head.qg.length j,.slice u r.qc.length d,.slice s r.qw.length f,.slice y vs.length t,.slice H B.length A,al,B⟩,ownk,rfl,HD.out.1,bh.out,HD.out.2⟩;clear HD aH a9 aF;simp[results,results192,go_sem,bR]
end
end Go.Proofs.YteampbddflhngaaGreat
