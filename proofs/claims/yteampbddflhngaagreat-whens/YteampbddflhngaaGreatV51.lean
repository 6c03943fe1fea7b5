import Derived.Test.YteampbddflhngaaGreatV50
namespace Go.Proofs.YteampbddflhngaaGreat
set_option linter.all false
set_option maxRecDepth 100000
set_option maxHeartbeats 8000000
open Go.Proofs.Tryz Go.RowKit
section
variable {z:Nat}
theorem De(fs l:List z7)(f:z7):l.length<=(ue fs l f).length:=by
 unfold ue;split<;>simp
theorem tV{α:Type}(g:List z7->α->List z7)(b:∀l x,l.length<=(g l x).length):∀(a:List α) (l:List z7),l.length<=(a.foldl g l).length
 |[],_=>zh _
 |x::a,l=>zT (b l x) (tV g b a (g l x))
theorem GH{α:Type}(g:List z7->α->List z7)(b:∀l x,l.length<=(g l x).length)(a:List α)(l:List z7)(k:Nat):((a.take k).foldl g l).length<=(a.foldl g l).length:=by
 conv=>rhs;rw[←qO k a,ju]
 exact tV g b _ _
theorem Gd(fs:List z7)(k:Nat)(a:List zc)(l:List z7):l.length<=(xw fs k a l).length:=tV _ (fun l _=>tV _ (fun l _=>De fs l _) _ l) a l
theorem Ca(fs:List z7)(k:Nat)(b a:List zc)(l:List z7):xw fs k (b++a) l=xw fs k a (xw fs k b l):=by
 unfold xw;rw[ju]
theorem Jp(fs:List z7)(k:Nat)(t:List zg)(cs:List zc)(s i:Nat):(xw fs k (yk t (cs.take i) s) []).length<=(xw fs k (yk t cs s) []).length:=by
 have:yk t cs s=yk t (cs.take i) s++yk t (cs.drop i) s:=by
  unfold yk;rw[←rx,qO]
 rw[this,Ca];exact Gd _ _ _ _
theorem iC{fs:List z7}{h:zj}{body:List zj}:∀(rest:List zj) (B:y6) (r:List ByteArray),r∈ye fs h body rest B->r.length=h.args.length
 |[],B,r,a=>by
  unfold ye at a;split at a
  ·cases a
  ·rw[ud.1 a];simp[yB]
 |l::rest,B,r,a=>by
  unfold ye at a;split at a
  ·exact iC rest B r a
  ·obtain⟨f,_,a⟩:=uX.1 a;split at a
   ·split at a
    ·cases a
    ·exact iC rest _ r a
   ·cases a
theorem NW{fs l:List z7}{f:z7}{n:Nat}(b:∀g∈l,g.2.1.length<=n)(c:f.2.1.length<=n):∀g∈ue fs l f,g.2.1.length<=n:=by
 intro g a;unfold ue at a;split at a
 ·exact b g a
 ·rcases zW.1 a with q|q
  ·exact b g q
  ·rw[ud.1 q];exact c
theorem iQ{fs:List z7}{n:Nat}{p:ByteArray}{k:Nat}:∀(rs:List (List ByteArray)) (l:List z7),(∀g∈l,g.2.1.length<=n)->(∀r∈rs,r.length<=n)->∀g∈rs.foldl (fun l r=>ue fs l (p,r,k)) l,g.2.1.length<=n
 |[],_,a,_=>a
 |r::rs,l,a,b=>iQ rs _ (NW a (b r (by simp))) (fun x c=>b x (by simp[c]))
theorem EK(w:World)(pb mb n s:Nat)(fv:Value)(ao:Option Addr)(cap:Nat)(aV:Option Addr)(a3:Nat)(af:Option Addr)(Q:Nat)(cs:List zc)(t:List zg)(fs:List z7)(h:QU z w pb ao cap aV a3 af Q cs t)(hz:z<w.heap.size)(hm:OZ w mb #[fv,.int .i64 n] 54)(X:lZ w fv fs)(hx:xJ cs t)(hl:cs.length<=1000)(ht:t.length<=1000)(av:∀c∈cs,xz t c.head.pred<=1000)(hs:s<=1000)(a6:∀c∈cs,c.body.length<=30)(ah:∀c∈cs,∀l∈zm c,l.args.length<=3/\∀a∈l.args,0<a.size)(aw:fs.length<=10000000)(ae:∀f∈fs,f.2.1.length<=1000000)(hF:re cs fs)(au:(xw fs n (yk t cs s) []).length<1000000000000)(V:∀c∈cs,(ye fs c.head c.body c.body []).length<=1000000000000):
  Calls prog 125 #[.pointer (some ⟨pb,0,none⟩),.pointer (some ⟨mb,0,none⟩),.int .i64 s] w fun e y=>∃v,e=.returned v/\Hid (yP z w.heap.size y v (xw fs n (yk t cs s) []))/\Hid (Below w.heap.size w y):=by
 have aA:Hid (∀W c,Below w.heap.size w W->c∈cs->Calls prog 111 #[.pointer (some ⟨pb,0,none⟩),.string c.head.pred] W fun e y=>e=.returned (.int .i64 (zF t c.head.pred:Nat))/\y=W):=fun W c m hc=>by
  have:=mv W pb _ _ _ (Pb t) c.head.pred (h.below m).box (h.below m).names (by simp[Pb];omega);rw[(rL hx hc).1] at this;exact this
 have aW:Hid (∀W c,Below w.heap.size w W->c∈cs->zF t c.head.pred<t.length/\∃g,af=some ⟨g,0,none⟩/\g<W.heap.size/\W.cell? ⟨g,zF t c.head.pred,none⟩=some (.int .i64 (xz t c.head.pred:Nat))):=fun W c m hc=>by
  obtain⟨D,F⟩:=(rL hx hc).2;obtain⟨g,r1,r2,r3⟩:=(h.below m).strata _ D;exact⟨D,g,r1,r2,by rw[r3,F]⟩
 have a4:Hid (∀W i (C:i<cs.length),Below w.heap.size w W->∃g,ao=some ⟨g,0,none⟩/\g<W.heap.size/\g<w.heap.size/\QM z W g (i*4) cs[i]):=fun W i C m=>by
  obtain⟨g,D,F⟩:=h.cl i C;exact⟨g,D,xo F.lt m.size,F.lt,F.below m⟩
 have aT:Hid (∀W,Below w.heap.size w W->W.cell? ⟨pb,0,none⟩=some (.slice ao cs.length cap)/\W.cell? ⟨pb,2,none⟩=some (.slice af t.length Q)/\pb<W.heap.size):=fun W m=>⟨by rw[(h.below m).box.rules.1];rfl,by rw[(h.below m).box.rules.1];rfl,(h.below m).box.lt⟩;have ar:Hid (∀W i (C:i<cs.length) g,Below w.heap.size w W->QM z W g (i*4) cs[i]->Calls prog 166 #[.pointer (some ⟨mb,0,none⟩),.pointer (some ⟨g,i*4,none⟩),.int .i64 0,.agg #[.slice none 0 0,.slice none 0 0]] W fun e y=>∃v,e=.returned v/\Hid (uY z W.heap.size y v (ye fs cs[i].head cs[i].body cs[i].body []))/\Hid (Below W.heap.size W y)):=fun W i C g m hc=>by
  have j:=zu C;exact E0 mb n g (i*4) fv cs[i] fs (a6 _ j) (ah _ j) aw ae (fun f X l hl e=>hF.jf f X _ j l hl e.symm) hF.ne cs[i].body 0 W _ _ [] (zv _) rfl (by simp) (fun v x q=>by cases q) (V _ j) ⟨hm.below m,X.below m,hc,Pg.nil W,Pg.nil W,xo hz m.size⟩
 have S:=OY fun W N rv an row (ls:List z7) (m:Below w.heap.size w W) (h1:yP z w.heap.size W N ls) (h2:Qn z W rv row) (h3:ls.length<1000000000000) (h4:row.length<=1000000) (h5:(∀f∈ls,f.2.1.length<=1000000))=>E5 W mb n fv N rv fs ls an row (hm.below m) (X.below m) h1 h2 aw h3 h4 ae h5 m.size;have ak:=OY av;have HE:Hid (xw fs n (yk t cs s) []=xw fs n (yk t (cs.take cs.length) s) []):=by rw[Hid,uO]
 have aD:=OY fun i=>Nat.lt_of_le_of_lt (Jp fs n t cs s i) au;have aK:Hid (∀i (C:i<cs.length),xz t cs[i].head.pred=s->0<cs[i].body.length->xw fs n (yk t (cs.take (i+1)) s) []=(ye fs cs[i].head cs[i].body cs[i].body []).foldl (fun l r=>ue fs l (cs[i].head.pred,r,n)) (xw fs n (yk t (cs.take i) s) [])):=fun i C D F=>by
  rw[eX C,zb ⟨D,F⟩,Ca];rfl
 have aB:Hid (∀i (C:i<cs.length),¬(xz t cs[i].head.pred=s/\0<cs[i].body.length)->xw fs n (yk t (cs.take (i+1)) s) []=xw fs n (yk t (cs.take i) s) []):=fun i C D=>by rw[eX C,za D]
 have aJ:Hid (∀i (C:i<cs.length),∀r∈ye fs cs[i].head cs[i].body cs[i].body [],r.length<=1000000):=fun i C r hr=>by
  rw[iC _ _ r hr];have:=(ah _ (zu C) cs[i].head (by simp[zm])).1;omega
 have aE:=OY V;clear h hm X hx av a6 ah ae hF au V;generalize xw fs n (yk t cs s) []=bn at *;go_enter func125,ntmps125;go_wp2;go_loopw [7,8,9,10,11,12] (fun v7 v8 _ _ _ _ wr=>∃i:Nat,i<=cs.length/\v8=.int .i64 i/\Hid (yP z w.heap.size wr v7 (xw fs n (yk t (cs.take i) s) []))/\Hid (∀f∈xw fs n (yk t (cs.take i) s) [],f.2.1.length<=1000000)/\Hid (Below w.heap.size w wr)) (fun _ v8 _ _ _ _ _=>cs.length-(intOf v8).toNat)
 case atStart=>exact⟨0,zv _,rfl,yP.nil _ _,fun f X=>(by cases X),zo _ _⟩
 case round=>
  obtain⟨i,C,rfl,I,M,o⟩:=hrel;obtain⟨b0,b2,aI⟩:=aT.out _ o.out;by_cases B:i<cs.length
  ·have aO:(i:Int)<(cs.length:Int):=by omega
   have j:=zu B;obtain⟨g,rfl,hg,bg,J⟩:=a4.out _ i B o.out;have HC:=OY J;obtain⟨bc,gk,rfl,aZ,ck⟩:=aW.out _ _ o.out j;have HP:=OY (aA.out _ _ o.out j);have bk:=ak.out _ j;have bh:((zF t cs[i].head.pred:Nat):Int)<(t.length:Int):=by omega
   have c1:=J.pred;obtain⟨ab,cb,c3⟩:∃ab cb,wr.cell? ⟨g,i*4+3,none⟩=some (.slice ab cs[i].body.length cb):=by
    obtain⟨ab,cb,c3,_⟩:=J.body;exact⟨ab,cb,c3⟩
   have H1:=OY (aK.out i B);have H2:=OY (aB.out i B);have ax:=OY (aD.out (i+1));have al:=OY (ar.out wr i B g o.out J);have ad:=OY (aJ.out i B);have aY:=OY (aE.out _ j);have a2:Hid (∀W,Below w.heap.size w W->g<W.heap.size/\W.cell? ⟨g,i*4+1,none⟩=some (.string cs[i].head.pred)):=fun W m=>by
    obtain⟨g',e,D,_,F⟩:=a4.out W i B m;cases e;exact⟨D,F.pred⟩
   clear j J HC;obtain⟨nx,ag⟩:∃nx,xw fs n (yk t (cs.take (i+1)) s) []=nx:=⟨_,rfl⟩;rw[ag] at H1 H2 ax;have E:=OY ag;clear ag;generalize xw fs n (yk t (cs.take i) s) []=T at *;generalize ye fs cs[i].head cs[i].body cs[i].body []=d at *;generalize cs[i].body.length=bl at *;generalize xz t cs[i].head.pred=sk at *;generalize zF t cs[i].head.pred=fk at *;generalize cs[i].head.pred=G at *;by_cases h1:sk=s
   ·subst h1;by_cases h2:0<bl
    ·have a9:¬((bl:Int)=0):=by omega
     have HN:=OY (H1.out rfl h2);have be:=aY.out;go_upto_region 9 with (first|(go_at_call 166;refine al.out.mono ?_;rintro e w2 ⟨aM,rfl,ai,aj⟩)|(go_at_call 111;refine HP.out.mono ?_;rintro e w1 ⟨rfl,H⟩;obtain rfl:=H.symm))
     have a0:=OY (I.out.below aj.out);have am:=OY (Pc o.out aj.out);clear HP al b0 b2 aI hg aZ ck c1 c3 H1 H2 I aj o;obtain⟨K,u,ay⟩:∃K u,aM=.slice K d.length u:=by
      obtain⟨_,_,q,_⟩:=ai.out;exact zq q
     subst ay;go_wp2;go_loopw [7,12] (fun v7 aa wz=>∃(k:Nat) (N:Value),k<=d.length/\aa=.int .i64 k/\v7=N/\Hid (yP z w.heap.size wz N ((d.take k).foldl (fun l r=>ue fs l (G,r,n)) T))/\Hid (uY z 0 wz (.slice K d.length u) d)/\Hid (Below w.heap.size w wz)) (fun _ aa _=>d.length-(intOf aa).toNat)
     case atStart=>
      obtain⟨A,D,F,q3⟩:=ai.out;exact⟨0,_,zv _,rfl,rfl,a0,⟨A,D,yr F (zv _),q3⟩,am⟩
     case round=>
      clear a0 am ai;obtain⟨k,N,hk,rfl,az,a8,ap,Y⟩:=hrel;obtain rfl:=az.symm;clear az;by_cases ac:k<d.length
      ·have aF:(k:Int)<(d.length:Int):=by omega
       obtain⟨A,r1,r2,r3⟩:=ap.out;obtain⟨O,bd,aU,_,bb,P⟩:=y7 r2 (by omega);cases aU;have U:k<A.length:=by omega
       have bi:wr.cell? ⟨O,k,none⟩=some A[k]:=P k _ (by simp[U]);obtain⟨hg,c1⟩:=a2.out _ Y.out;have aR:Hid ((d.take (k+1)).foldl (fun l r=>ue fs l (G,r,n)) T=ue fs ((d.take k).foldl (fun l r=>ue fs l (G,r,n)) T) (G,d[k],n)):=by
        rw[Hid,yM ac,ju];rfl
       have R:((d.take k).foldl (fun l r=>ue fs l (G,r,n)) T).length<1000000000000:=by
        refine Nat.lt_of_le_of_lt (GH _ (fun l _=>De fs l _) d T k) ?_;rw[←HN.out];exact ax.out
       have aq:=iQ (fs:=fs) (p:=G) (k:=n) (d.take k) T M.out (fun r hr=>ad.out r (fD hr));have aG:Hid (∀W,Below wr.heap.size wr W->Calls prog 123 #[.pointer (some ⟨mb,0,none⟩),N,.string G,A[k]] W fun e y=>∃v,e=.returned v/\Hid (yP z w.heap.size y v (ue fs ((d.take k).foldl (fun l r=>ue fs l (G,r,n)) T) (G,d[k],n)))/\Hid (uY z 0 y (.slice (some ⟨O,0,none⟩) d.length u) d)/\Hid (Below w.heap.size w y)/\y.cell? ⟨O,k,none⟩=some A[k]/\y.cell? ⟨g,i*4+1,none⟩=some (.string G)):=fun W m=>by
        have Z:=Pc Y.out m;have a7:=a8.out.below m;refine(S.out W N A[k] G d[k] _ Z a7 ((r3 k ac U).below m) R (ad.out _ (zu ac)) aq).mono ?_;rintro e y ⟨v,D,F,q3⟩;obtain⟨_,_,L,_⟩:=id a7;have hS:=q3.out;have a1:=hS.below (fun b m=>yW L (yv m)) Z.size;have aP:=ap.out.below m;have a5:=Z.trans a1;have aN:=yE (zE r2 m) hS (Px.own L) (by decide);obtain⟨g',ba,e2,_,bf,aX⟩:=y7 aN (by omega);cases e2;exact⟨v,D,F,aP.saveT hS (Px.own L) (by decide) (by decide),a5,aX k _ (by simp[U]),(a2.out _ a5).2⟩
       clear r2 r3 P R aq S;generalize A[k]=rv at *;go_upto_region 12 with fail
       go_region_held3 (fun y=>y.cell? ⟨O,k,none⟩=some rv/\y.cell? ⟨g,i*4+1,none⟩=some (.string G)) (first|go_keep|(go_simp;done)) (first|(go_at_call 123;refine(aG.out _ (by exact(by repeat'(first|with_reducible(first|apply zR|assumption|apply zN|apply zA|apply zD|apply zS)|go_size)))).mono ?_;rintro e w5 ⟨v5,rfl,aL,aS,aQ,z0,z1⟩))
       go_wp2;go_roundw
       case rel=>exact⟨k+1,_,by omega,by go_num,rfl,by rw[aR.out];exact aL,aS,aQ⟩
       case measure=>simp[intOf];omega
      ·have aF:¬(k:Int)<(d.length:Int):=by omega
       obtain rfl:k=d.length:=by omega
       have aH:Hid (yP z w.heap.size wr N nx):=by
        have q:=a8.out;rw[uO,←HN.out] at q;exact q
       have aC:Hid (∀f∈nx,f.2.1.length<=1000000):=by
        rw[HN.out];exact iQ d T M.out ad.out
       go_wp2;go_roundw
       case rel=>exact⟨i+1,by omega,by go_num,by rw[E.out];exact aH,by rw[E.out];exact aC,Y⟩
       case measure=>simp[intOf];omega
    ·have a9:(bl:Int)=0:=by omega
     have HF:=OY (H2.out (fun q=>h2 q.2));go_wp2_with (first|(go_at_call 111;refine HP.out.mono ?_;rintro e w1 ⟨rfl,H⟩;obtain rfl:=H.symm))
     go_roundw
     case rel=>exact⟨i+1,by omega,by go_num,by rw[E.out,HF.out];exact I,by rw[E.out,HF.out];exact M,o⟩
     case measure=>simp[intOf];omega
   ·have bm:¬((sk:Int)=(s:Int)):=by omega
    have HF:=OY (H2.out (fun q=>h1 q.1));go_wp2_with (first|(go_at_call 111;refine HP.out.mono ?_;rintro e w1 ⟨rfl,H⟩;obtain rfl:=H.symm))
    go_roundw
    case rel=>exact⟨i+1,by omega,by go_num,by rw[E.out,HF.out];exact I,by rw[E.out,HF.out];exact M,o⟩
    case measure=>simp[intOf];omega
  ·have aO:¬(i:Int)<(cs.length:Int):=by omega
   obtain rfl:i=cs.length:=by omega
   go_wp2;go_ret;exact⟨_,rfl,by rw[Hid,HE.out];exact I.out,o⟩
def n7(z:Nat)(w:World)(b:Option (List z7×Nat))(e:Ending)(a:World):Prop:=match b with
 |none=>e=.returned (.pointer none)/\Hid (Below w.heap.size w a)
 |some (L,k)=>∃c,e=.returned (.pointer (some ⟨c,0,none⟩))/\Hid (∃d,w.heap.size<=c/\OZ a c #[d,.int .i64 k] 54/\yP z w.heap.size a d L)/\Hid (Below w.heap.size w a)
structure Q3 (z:Nat) (w wr:World) (mb:Nat) (fv:Value) (L:List z7) (k:Nat):Prop where
 hmb:w.heap.size<=mb
 box:OZ wr mb #[fv,.int .i64 k] 54
 fl:yP z w.heap.size wr fv L
 bel:Below w.heap.size w wr
theorem Q3.below{w wr d:World}{c:Nat}{b:Value}{L:List z7}{k:Nat}(h:Q3 z w wr c b L k)(a:Below wr.heap.size wr d):Q3 z w d c b L k:=⟨h.hmb,h.box.below a,h.fl.below a,Pc h.bel a⟩
theorem Q3.up{w wr:World}{a:Nat}{b:Value}{L:List z7}{k:Nat}(h:Q3 z w wr a b L k):Q3 z w (wr.setCell ⟨a,1,none⟩ (.int .i64 ((k:Int)+1))) a b L (k+1):=by
 refine⟨h.hmb,?_,h.fl.saveT (zd.set _ _ _ _) (Px.box h.box) (by decide) (by decide),h.bel.setCell h.hmb _⟩;have:=h.box.set 1 (.int .i64 ((k:Int)+1));simpa using this
theorem Q3.put{w wr:World}{e:Nat}{h a:Value}{g:List z7}{k:Nat}(c:w.heap.size<=e)(b:OZ wr e #[h,.int .i64 k] 54)(f:yP z w.heap.size wr a g)(d:Below w.heap.size w wr):Q3 z w (wr.setCell ⟨e,0,none⟩ a) e a g k:=by
 refine⟨c,?_,f.saveT (zd.set _ _ _ _) (Px.box b) (by decide) (by decide),d.setCell c _⟩;have:=b.set 0 a;simpa using this
theorem Do{cs:List zc}{i:Nat}(a:i<cs.length):x9 (cs.take (i+1))=if cs[i].body.length=0 then ue [] (x9 (cs.take i)) (cs[i].head.pred,cs[i].head.args,0) else x9 (cs.take i):=by
 unfold x9;rw[yM a,rx];by_cases q:cs[i].body.length=0
 ·rw[zb q,List.filter_cons_of_pos (by simpa using q),List.filter_nil,vB,ju];rfl
 ·rw[za q,List.filter_cons_of_neg (by simpa using q),List.filter_nil,qA]
theorem MJ(cs:List zc):(x9 cs).length<=cs.length/\∀f∈x9 cs,∃c∈cs,f=(c.head.pred,c.head.args,0):=by
 have:∀i,i<=cs.length->(x9 (cs.take i)).length<=i/\∀f∈x9 (cs.take i),∃c∈cs,f=(c.head.pred,c.head.args,0):=by
  intro i;induction i with
  |zero=>intro _;exact⟨by simp[x9],fun f b=>by simp[x9] at b⟩
  |succ i d=>
   intro e;obtain⟨g,a⟩:=d (by omega);rw[Do (by omega)];split
   ·unfold ue;split
    ·exact⟨by omega,a⟩
    ·refine⟨by simp;omega,fun f b=>?_⟩;rcases zW.1 b with q|q
     ·exact a f q
     ·exact⟨cs[i],zu _,ud.1 q⟩
   ·exact⟨by omega,a⟩
 have h:=this cs.length (zh _);rw[uO] at h;exact h
theorem GC(w:World)(pb mr mx:Nat)(ao:Option Addr)(cap:Nat)(ag:Option Addr)(E:Nat)(aA:Option Addr)(S:Nat)(cs:List zc)(t0 t:List zg)(hz:z<w.heap.size)(h:QU z w pb ao cap ag E aA S cs t)(hp:Pt cs t0 t)(hx:xJ cs t)(hl:cs.length<=1000)(ht:t.length<=1000)(a5:∀c∈cs,xz t c.head.pred<=1000)(aV:∀c∈cs,c.body.length<=30)(ah:∀c∈cs,∀l∈zm c,l.args.length<=3/\∀a∈l.args,0<a.size)(b4:mr<=1048576)(b6:mx<=1048576)(aa:∀L D,PO t (zp cs) L D->L.length<1000000000000/\∀c∈cs,(ye L c.head c.body c.body []).length<=1000000000000):
  Calls prog 76 #[.pointer (some ⟨pb,0,none⟩),.int .i64 mr,.int .i64 mx] w fun e G=>n7 z w (yjq t cs mr mx) e G:=by
 have b5:=OY fun W (j:Below w.heap.size w W)=>h.below j;have a6:Hid (∀W,Below w.heap.size w W->W.cell? ⟨pb,0,none⟩=some (.slice ao cs.length cap)/\W.cell? ⟨pb,1,none⟩=some (.slice ag t.length E)/\pb<W.heap.size):=fun W j=>⟨by rw[(h.below j).box.rules.1];rfl,by rw[(h.below j).box.rules.1];rfl,(h.below j).box.lt⟩;have aS:Hid (∀W i (hi:i<cs.length),Below w.heap.size w W->∃g av ab cb,ao=some ⟨g,0,none⟩/\g<W.heap.size/\g<w.heap.size/\W.cell? ⟨g,i*4+1,none⟩=some (.string cs[i].head.pred)/\W.cell? ⟨g,i*4+2,none⟩=some av/\Qn z W av cs[i].head.args/\W.cell? ⟨g,i*4+3,none⟩=some (.slice ab cs[i].body.length cb)):=fun W i hi j=>by
  obtain⟨g,q1,q2⟩:=h.cl i hi;have q3:=q2.below j;obtain⟨av,q4,q5⟩:=q3.args;obtain⟨ab,cb,q6,_⟩:=q3.body;exact⟨g,av,ab,cb,q1,q3.lt,q2.lt,q3.pred,q4,q5,q6⟩
 have br:=OY fun W s j hs=>IQ W pb ao cap ag E aA S cs t s (h.below j) hx hl ht a5 hs;have bt:Hid (∀W s mb C L D k,Q3 z w W mb C L k->PO t (zp cs) L D->L.length<=1048576->s<=1000->Calls prog 125 #[.pointer (some ⟨pb,0,none⟩),.pointer (some ⟨mb,0,none⟩),.int .i64 (s:Nat)] W fun e G=>∃v,e=.returned v/\Hid (yP z W.heap.size G v (xw L k (yk t cs s) []))/\Hid (Below W.heap.size W G)):=fun W s mb C L D k hM hR hL hs=>by
  have bh:=(aa _ _ (hR.round hp hx s k).1).1;rw[yz] at bh;exact EK W pb mb k s C ao cap ag E aA S cs t L (h.below hM.bel) (xo hz hM.bel.size) hM.box hM.fl.facts hx hl ht a5 hs aV ah (by omega) (fun f hf=>by
   obtain⟨p,aZ,r,m,_,rfl⟩:=(hR.mem f).1 hf;simp only[nX];have:=hx.small p aZ;omega) (hR.fs hx) (by omega) (aa _ _ hR).2
 have aK:=OY ah;have aq:Hid (x9 cs=x9 (cs.take cs.length)):=by rw[Hid,uO]
 have aw:Hid (∀i,(x9 (cs.take i)).length<=1000/\∀f∈x9 (cs.take i),f.2.1.length<=1000000):=fun i=>by
  obtain⟨q1,q2⟩:=MJ (cs.take i);refine⟨by simp at q1;omega,fun f hf=>?_⟩;obtain⟨c,hc,rfl⟩:=q2 f hf;have:=(ah c (fD hc) c.head (by simp[zm])).1;show c.head.args.length<=_;omega
 have aO:Hid (∀i (hi:i<cs.length),x9 (cs.take (i+1))=if cs[i].body.length=0 then ue [] (x9 (cs.take i)) (cs[i].head.pred,cs[i].head.args,0) else x9 (cs.take i)):=fun i hi=>Do hi;have aT:=OY (BF hx);have aG:=OY fun L D s k (q:PO t (zp cs) L D)=>(q.round hp hx s k).1;have bv:=OY fun L D q=>(aa L D q).1;have aJ:Hid (yjq t cs mr mx=if (x9 cs).length<=mr then zyh t cs mr mx t.length 0 0 (x9 cs) else none):=rfl;obtain⟨b0,b1,P⟩:=a6.out w (zo _ _);clear h hp hx a5 aV ah aa;generalize yjq t cs mr mx=d at *;go_enter func76,ntmps76;go_wp2;have M:Hid (Q3 z w (w.alloc (.cells #[.slice none 0 0,.int .i64 0] 54)) w.heap.size (.slice none 0 0) [] 0):=⟨zh _,OZ.new _ _ _,yP.nil _ _,(zo _ _).alloc (zh _) _⟩;generalize bu:w.alloc (.cells #[.slice none 0 0,.int .i64 0] 54)=wA at *;clear bu b0 b1 P;go_loopw [8,9,10] (fun v8 v9 _ wr=>∃(i:Nat) (lv:Value),i<=cs.length/\v9=.int .i64 i/\v8=lv/\Hid (yP z wA.heap.size wr lv (x9 (cs.take i)))/\Hid (Below wA.heap.size wA wr)) (fun _ v9 _ _=>cs.length-(intOf v9).toNat)
 case atStart=>exact⟨0,_,zv _,rfl,rfl,yP.nil _ _,zo _ _⟩
 case round=>
  obtain⟨i,lv,hi,rfl,af,ac,A⟩:=hrel;obtain rfl:=af.symm;clear af;have ai:=OY (Pc M.out.bel A.out);obtain⟨b0,b1,P⟩:=a6.out _ ai.out;by_cases a9:i<cs.length
  ·have bk:(i:Int)<(cs.length:Int):=by omega
   obtain⟨g,av,ab,cb,rfl,hg,bf,c1,c2,a8,c3⟩:=aS.out _ i a9 ai.out;have ae:=OY (aO.out i a9);obtain⟨aN,aB⟩:=aw.out i;have b3:=(aK.out _ (zu a9) cs[i].head (by simp[zm])).1;by_cases j:cs[i].body.length=0
   ·have a7:Hid (x9 (cs.take (i+1))=ue [] (x9 (cs.take i)) (cs[i].head.pred,cs[i].head.args,0)):=by rw[Hid,ae.out,zb j]
    rw[j] at c3;have be:Hid (∀W,Below wr.heap.size wr W->Calls prog 123 #[.pointer (some ⟨w.heap.size,0,none⟩),lv,.string cs[i].head.pred,av] W fun e G=>∃v,e=.returned v/\Hid (yP z wA.heap.size G v (ue [] (x9 (cs.take i)) (cs[i].head.pred,cs[i].head.args,0)))/\Hid (Below wA.heap.size wA G)/\G.cell? ⟨g,i*4+1,none⟩=some (.string cs[i].head.pred)/\G.cell? ⟨g,i*4+2,none⟩=some av):=fun W j=>by
     have aj:=Pc A.out j;have aX:=ac.out.below j;refine(E5 W w.heap.size 0 _ lv av [] (x9 (cs.take i)) cs[i].head.pred cs[i].head.args (M.out.box.below aj) (yP.nil (z:=z) 0 W).facts aX (a8.below j) (by simp) (by omega) (by omega) (fun f hf=>by cases hf) aB aj.size).mono ?_;rintro e G ⟨v,q1,q2,q3⟩;obtain⟨_,_,aY,_⟩:=id aX;have aC:=aj.trans (q3.out.below (fun b j=>yW aY (yv j)) aj.size);have Z:=xo bf M.out.bel.size;have k1:=(A.out.cell (p:=⟨g,i*4+1,none⟩) Z).symm.trans c1;have k2:=(A.out.cell (p:=⟨g,i*4+2,none⟩) Z).symm.trans c2;exact⟨v,q1,q2,aC,(zl aC Z k1),(zl aC Z k2)⟩
    clear a8 ae aN aB;generalize ue [] (x9 (cs.take i)) (cs[i].head.pred,cs[i].head.args,0)=nx at *;generalize cs[i].head.pred=pr at *;go_upto_region 8 with fail
    go_region_held3 (fun G=>G.cell? ⟨g,i*4+1,none⟩=some (.string pr)/\G.cell? ⟨g,i*4+2,none⟩=some av) (first|go_keep|(go_simp;done)) (first|(go_at_call 123;refine(be.out _ (by exact(by repeat'(first|with_reducible(first|apply zR|assumption|apply zN|apply zA|apply zD|apply zS)|go_size)))).mono ?_;rintro e w5 ⟨v5,rfl,bi,bm,z0,z1⟩))
    go_wp2;go_roundw
    case rel=>exact⟨i+1,_,by omega,by go_num,rfl,by rw[a7.out];exact bi,bm⟩
    case measure=>simp[intOf];omega
   ·have a7:Hid (x9 (cs.take (i+1))=x9 (cs.take i)):=by rw[Hid,ae.out,za j]
    have b2:¬((cs[i].body.length:Int)=0):=by omega
    clear a8 ae aN aB j;generalize cs[i].body.length=bl at *;go_wp2;go_roundw
    case rel=>exact⟨i+1,_,by omega,by go_num,rfl,by rw[a7.out];exact ac,A⟩
    case measure=>simp[intOf];omega
  ·have bk:¬(i:Int)<(cs.length:Int):=by omega
   obtain rfl:i=cs.length:=by omega
   have a2:Hid (yP z wA.heap.size wr lv (x9 cs)):=by rw[aq.out];exact ac
   have aP:=(aw.out cs.length).1;rw[←aq.out] at aP;have a0:=M.out.box.below A.out;have R:=OY (Q3.put (zh _) a0 (a2.out.low M.out.bel.size) ai.out);have O:=OY aJ.out;obtain⟨ar,U,af⟩:∃ar U,lv=.slice ar (x9 cs).length U:=by
    obtain⟨_,_,q,_⟩:=a2.out;exact zq q
   subst af;obtain⟨mc,mf,x⟩:=a0.boxed;clear a0 a2 ac aq aO aw aK aS aJ;generalize x9 cs=L0 at *;go_upto_region 10 with fail
   generalize wr.setCell ⟨w.heap.size,0,none⟩ (.slice ar L0.length U)=wB at *;clear mc mf x b0 b1 P A ai;obtain⟨mc,mf,x⟩:=R.out.box.boxed;obtain⟨b0,b1,P⟩:=a6.out _ R.out.bel;by_cases hq:L0.length<=mr
   ·have aU:¬((mr:Int)<(L0.length:Int)):=by omega
    have aI:Hid (zyh t cs mr mx t.length 0 0 L0=d):=by rw[Hid,O.out,zb hq]
    go_wp2;clear mc mf x b0 b1 P O;go_loopw [12,13,14] (fun a1 _ _ wz=>∃(s k:Nat) (L:List z7) (C:Value),s<=t.length/\a1=.int .i64 s/\L.length<=mr/\k<=mx/\Hid (Q3 z w wz w.heap.size C L k)/\Hid (∃D,PO t (zp cs) L D)/\Hid (zyh t cs mr mx (t.length-s) s k L=d)) (fun a1 _ _ _=>t.length-(intOf a1).toNat)
    case atStart=>exact⟨0,0,L0,_,zv _,rfl,hq,zv _,R,⟨_,aT.out⟩,aI⟩
    case round=>
     clear R aT aI hq aU aP;obtain⟨s,k,L,C,hs,rfl,Y,ad,F,H,HS⟩:=hrel;by_cases b7:s<t.length
     ·have bn:(s:Int)<(t.length:Int):=by omega
      obtain⟨n,hn⟩:∃n,t.length-s=n+1:=⟨t.length-s-1,by omega⟩;have bx:=OY (show t.length-(s+1)=n by omega);have aR:Hid (d=if yk t cs s=[] then zyh t cs mr mx n (s+1) k L else match z0a t cs mr s (mx-k) k L with|none=>none|some (L',k')=>zyh t cs mr mx n (s+1) k' L'):=by
       have q:=HS.out;rw[hn,zyh] at q;exact q.symm
      have am:=OY (br.out wr s F.out.bel (by omega));clear hn HS;go_wp2_with (first|(go_at_call 124;refine am.out.mono ?_;rintro e w1 ⟨rfl,ba⟩;obtain rfl:=ba.symm))
      clear am;go_loopg [13,14] (mx+1) (fun f bp _ wz=>∃(b:Bool) (k:Nat) (L:List z7) (C:Value),bp=.bool b/\(b=true->mx-k<f)/\L.length<=mr/\k<=mx/\Hid (Q3 z w wz w.heap.size C L k)/\Hid (∃D,PO t (zp cs) L D)/\Hid (d=if b=false then zyh t cs mr mx n (s+1) k L else match z0a t cs mr s (mx-k) k L with|none=>none|some (L',k')=>zyh t cs mr mx n (s+1) k' L'))
      case atStart=>
       refine⟨!(yk t cs s).isEmpty,k,L,C,rfl,fun _=>by omega,Y,ad,F,H,?_⟩;rw[Hid,aR.out];cases yk t cs s with
       |nil=>rfl
       |cons a b=>rfl
      case round=>
       clear F H aR Y ad;obtain⟨b,k,L,C,rfl,a4,Y,ad,F,H,HS⟩:=hrel;cases b with
       |false=>
        have N:Hid (zyh t cs mr mx n (s+1) k L=d):=HS.out.symm;go_wp2;go_roundw
        case rel=>exact⟨s+1,k,L,C,by omega,by go_num,Y,ad,F,H,by rw[bx.out];exact N⟩
        case measure=>simp[intOf];omega
       |true=>
        have N:Hid (d=match z0a t cs mr s (mx-k) k L with|none=>none|some (L',k')=>zyh t cs mr mx n (s+1) k' L'):=HS.out;have b8:=a4 rfl;obtain⟨mc,mf,x⟩:=F.out.box.boxed;by_cases bo:k=mx
        ·subst bo;have K:Hid (d=none):=by rw[Hid,N.out,jK];rfl
         clear a4;go_wp2;go_ret;unfold n7;rw[K.out];exact⟨rfl,F.out.bel⟩
        ·have bz:¬((k:Int)=(mx:Int)):=by omega
         obtain⟨left,T⟩:∃left,mx-k=left+1:=⟨mx-k-1,by omega⟩;have bw:=OY (show mx-(k+1)=left by omega);have aE:=N.out;rw[T,z0a] at aE;have HU:=OY (F.out.up);have Q:=OY aE;clear N T a4 HS aE;go_upto_region 21 with fail
         generalize wr.setCell ⟨w.heap.size,1,none⟩ (.int .i64 ((k:Int)+1))=w1 at *;clear mc mf x F;obtain⟨D,hD⟩:=H.out;have aL:=OY (bt.out w1 s w.heap.size C L D (k+1) HU.out hD (by omega) (by omega));have al:Hid (∃D,PO t (zp cs) (L++xw L (k+1) (yk t cs s) []) D):=⟨_,aG.out L D s (k+1) hD⟩;have au:=bv.out _ _ (aG.out L D s (k+1) hD);rw[yz] at au;clear hD H;generalize xw L (k+1) (yk t cs s) []=o at *;go_upto_region 22 with (first|(go_at_call 125;refine aL.out.mono ?_;rintro e w2 ⟨bs,rfl,aF,aW⟩))
         have u:=OY (HU.out.below aW.out);clear aL HU aW;obtain⟨ap,V,bc⟩:∃ap V,bs=.slice ap o.length V:=by
          obtain⟨_,_,q,_⟩:=aF.out;exact zq q
         subst bc;obtain⟨aH,an,bb⟩:∃aH an,C=.slice aH L.length an:=by
          obtain⟨_,_,q,_⟩:=u.out.fl;exact zq q
         subst bb;obtain⟨mc,mf,x⟩:=u.out.box.boxed;go_upto_region 23 with (first|(at_builtin;refine C1 rfl (.tmp 97) (.tmp 98) rfl _ _ _ _ rfl rfl u.out.fl aF.out (by omega) u.out.bel.size ?_;intro v8 w8 ay ax;obtain⟨az,J,h8⟩:∃az J,v8=.slice az (L.length+o.length) J:=by{obtain⟨_,_,q,_⟩:=ay;rw[←yz];exact zq q};subst h8;obtain⟨_,_,y,_⟩:=u.out.fl;have aD:=u.out.box.saveT ax (Px.own y) (by decide);obtain⟨bd,bq,aQ⟩:=aD.boxed))
         have ak:=OY (Q3.put (zh _) aD ay (u.out.bel.trans (ax.below (fun b j=>yW y (yv j)) u.out.bel.size)));clear mc mf x bd bq aQ aD y ay ax u aF;generalize w8.setCell ⟨w.heap.size,0,none⟩ (.slice az (L.length+o.length) J)=wN at *;obtain⟨mc,mf,x⟩:=ak.out.box.boxed;rw[yz] at Q;by_cases B:L.length+o.length<=mr
         ·have bg:¬((mr:Int)<((L.length+o.length:Nat):Int)):=by omega
          have X:=Q.out;rw[zb B] at X;by_cases I:o=[]
          ·have K:Hid (d=zyh t cs mr mx n (s+1) (k+1) (L++o)):=by rw[Hid,X,zb I]
           have aM:o.length=0:=by rw[I];rfl
           clear I X Q au;have a3:Hid (L.length+o.length=(L++o).length):=yz.symm;generalize L.length+o.length=ll at *;generalize o.length=nl at *;subst aM;go_wp2;go_roundg (mx-(k+1))
           case measure=>omega
           case rel=>exact⟨false,k+1,L++o,_,rfl,fun q=>(by cases q),by rw[←a3.out];exact B,by omega,ak,al,K⟩
          ·have K:Hid (d=match z0a t cs mr s (mx-(k+1)) (k+1) (L++o) with|none=>none|some (L',k')=>zyh t cs mr mx n (s+1) k' L'):=by rw[Hid,X,za I,bw.out]
           have aM:(0:Int)<(o.length:Int):=by have:=List.length_pos_iff.2 I;omega
           clear I X Q au;have a3:Hid (L.length+o.length=(L++o).length):=yz.symm;generalize L.length+o.length=ll at *;generalize o.length=nl at *;go_wp2;go_roundg (gk-1)
           case measure=>omega
           case rel=>exact⟨true,k+1,L++o,_,congrArg Value.bool (decide_eq_true (by omega)),fun _=>(by omega),by rw[←a3.out];exact B,by omega,ak,al,K⟩
         ·have bg:((mr:Int)<((L.length+o.length:Nat):Int)):=by omega
          have K:Hid (d=none):=by rw[Hid,Q.out,za B]
          generalize L.length+o.length=ll at *;go_wp2;go_ret;unfold n7;rw[K.out];exact⟨rfl,ak.out.bel⟩
     ·have bn:¬(s:Int)<(t.length:Int):=by omega
      obtain rfl:s=t.length:=by omega
      have K:Hid (some (L,k)=d):=by
       have q:=HS.out;rw[jK] at q;exact q
      go_wp2;go_ret;unfold n7;rw[←K.out];exact⟨_,rfl,⟨C,F.out.hmb,F.out.box,F.out.fl⟩,F.out.bel⟩
   ·have aU:((mr:Int)<(L0.length:Int)):=by omega
    have K:Hid (d=none):=by rw[Hid,O.out,za hq]
    go_wp2;go_ret;unfold n7;rw[K.out];exact⟨rfl,R.out.bel⟩
theorem Ba(w:World)(v:Value):Calls prog 34 #[v,.bool true] w fun e a=>e=.returned (.slice none 0 0)/\a=w:=by
 go_enter func34,ntmps34;go_wp2;go_ret;exact⟨rfl,rfl⟩
theorem Ac(w:World)(u v:Value):Calls prog 36 #[u,v,.bool true] w fun e a=>e=.returned (.bool true)/\a=w:=by
 go_enter func36,ntmps36;go_wp2;go_ret;exact⟨rfl,rfl⟩
theorem GD(w:World)(u v:Value):Calls prog 75 #[u,v,.bool true] w fun e a=>e=.returned (.bool true)/\a=w:=by
 go_enter func75,ntmps75;go_wp2;go_ret;exact⟨rfl,rfl⟩
theorem KS(w:World)(u v:Value)(a b:Int)(h:a<0∨1048576<a∨b<0∨1048576<b):Calls prog 37 #[u,v,.bool true,.int .i64 a,.int .i64 b] w fun e c=>e=.returned (.tuple #[.pointer none,.int .i64 8])/\c=w:=by
 by_cases g:a<0
 ·go_enter func37,ntmps37;go_wp2;go_ret2
  exact⟨rfl,rfl⟩
 ·by_cases f:1048576<a
  ·go_enter func37,ntmps37;go_wp2;go_ret2
   exact⟨rfl,rfl⟩
  ·by_cases i:b<0
   ·go_enter func37,ntmps37;go_wp2;go_ret2
    exact⟨rfl,rfl⟩
   ·have d:1048576<b:=by omega
    go_enter func37,ntmps37;go_wp2;go_ret2
    exact⟨rfl,rfl⟩
def Cd(z:Nat)(w:World)(b:Option (List z7×Nat))(e:Ending)(a:World):Prop:=match b with
 |none=>e=.returned (.tuple #[.pointer none,.int .i64 10])/\Hid (Below w.heap.size w a)
 |some (L,k)=>∃c,e=.returned (.tuple #[.pointer (some ⟨c,0,none⟩),.int .i64 0])/\Hid (∃d,w.heap.size<=c/\OZ a c #[d,.int .i64 k] 54/\yP z w.heap.size a d L)/\Hid (Below w.heap.size w a)
theorem Ip(w:World)(v:Value)(pb mr mx:Nat)(c:Option (List z7×Nat))(n:mr<=1048576)(o:mx<=1048576)(h:Hid (Calls prog 76 #[.pointer (some ⟨pb,0,none⟩),.int .i64 mr,.int .i64 mx] w fun e a=>n7 z w c e a)):Calls prog 37 #[.pointer (some ⟨pb,0,none⟩),v,.bool true,.int .i64 mr,.int .i64 mx] w fun e a=>Cd z w c e a:=by
 have s:¬(mr:Int)<0:=by omega
 have r:¬(1048576:Int)<(mr:Int):=by omega
 have t:¬(mx:Int)<0:=by omega
 have q:¬(1048576:Int)<(mx:Int):=by omega
 have j:=OY (GD w (.pointer (some ⟨pb,0,none⟩)) v);cases c with
 |none=>
  have f:Hid (Calls prog 76 #[.pointer (some ⟨pb,0,none⟩),.int .i64 mr,.int .i64 mx] w fun e a=>e=.returned (.pointer none)/\Hid (Below w.heap.size w a)):=h;clear h;go_enter func37,ntmps37;go_wp2_with (first|(go_at_call 75;refine j.out.mono ?_;rintro e p ⟨rfl,b⟩;obtain rfl:=b.symm)|(go_at_call 76;refine f.out.mono ?_;rintro e m ⟨rfl,d⟩))
  go_ret2
  exact⟨rfl,d⟩
 |some x=>
  obtain⟨L,k⟩:=x;have f:Hid (Calls prog 76 #[.pointer (some ⟨pb,0,none⟩),.int .i64 mr,.int .i64 mx] w fun e a=>∃g,e=.returned (.pointer (some ⟨g,0,none⟩))/\Hid (∃l,w.heap.size<=g/\OZ a g #[l,.int .i64 k] 54/\yP z w.heap.size a l L)/\Hid (Below w.heap.size w a)):=h;clear h;go_enter func37,ntmps37;go_wp2_with (first|(go_at_call 75;refine j.out.mono ?_;rintro e p ⟨rfl,b⟩;obtain rfl:=b.symm)|(go_at_call 76;refine f.out.mono ?_;rintro e m ⟨g,rfl,i,d⟩))
  go_ret2
  exact⟨g,rfl,i,d⟩
end
end Go.Proofs.YteampbddflhngaaGreat
