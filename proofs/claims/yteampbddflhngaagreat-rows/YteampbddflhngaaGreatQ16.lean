import Derived.Test.YteampbddflhngaaGreatQ14
import Derived.Test.YteampbddflhngaaGreatQ15
namespace Go.Proofs.YteampbddflhngaaGreat
set_option linter.all false
set_option maxRecDepth 100000
set_option maxHeartbeats 8000000
open Go.RowKit
section
open Go.Proofs.Tryz
def AV{lo z:Nat}(w:World)(H vb:Value)(a b:κ)(u:R7 lo w H a)(v:R7 z w vb b)(hl:a.length<=1000000)(aa:b.length<=2000000):
  Calls prog 84 #[H,vb] w λe S=>e=ε (.bool (decide (a=b)))/\μ w S:=by
 obtain⟨ao,V,rfl⟩:=u.qy;obtain⟨U,J,rfl⟩:=v.qy;by_cases d:a.length=b.length
 .have o:=Ry d;rw[←d];clear d;have Y:Hid (∀k,k<a.length->a.getD k ByteArray.empty≠b.getD k ByteArray.empty->decide (a=b)=false):=λk _ q=>by
   simp only[decide_eq_false_iff_not];rintro rfl;exact q rfl
  have W:Hid ((∀k,k<a.length->a.getD k ByteArray.empty=b.getD k ByteArray.empty)->decide (a=b)=true):=λq=>by
   simp only[decide_eq_true_eq];refine j7 o.out λi I O=>?_;have:=q i I;rwa [R6 _ I,R6 _ O] at this
  generalize decide (a=b)=r at *;have X:=Ry u;have Q:=Ry v;clear u v;go_enter func84,ntmps84;go_wp2;go_loopw [5] (λi wr=>∃k:Nat,k<=a.length/\i=ι k/\Hid (∀j,j<k->a.getD j ByteArray.empty=b.getD j ByteArray.empty)/\μ w wr) (λi _=>a.length-(intOf i).toNat);exact⟨0,zv _,rfl,λj G=>by omega,zp _ _⟩;obtain⟨k,hk,rfl,M,c⟩:=hrel;have L:=c.size;by_cases f:k<a.length
  .have h:k<b.length:=by rw[←o.out];exact f
   obtain⟨g,rfl,N,s⟩:=X.out.cell k f;obtain⟨R,T,C,l⟩:=Q.out.cell k h;subst T;have P:=zl c N s;have E:=zl c C l;have Z:g<wr.heap.size:=by omega
   have F:R<wr.heap.size:=by omega
   clear s l;have p:Hid (a.getD k ByteArray.empty=a[k]):=R6 _ f;have n:Hid (b.getD k ByteArray.empty=b[k]):=R6 _ h;by_cases m:a[k]=b[k]
   .have A:=jF m;have B:=Ry m;clear m;generalize a[k]=x at *;generalize b[k]=y at *;go_wp2;go_quiet (fail)
    go_wp2;go_roundw
    case rel=>exact⟨k+1,by omega,by go_num,λj G=>(by
     by_cases D:j=k;rw[D,p.out,n.out,B.out];exact M.out j (by omega)),zI c _⟩
    simp[intOf];omega
   have A:=qb m;have t:=Ry (Y.out k f (by rw[p.out,n.out];exact m));clear m;generalize a[k]=x at *;generalize b[k]=y at *;go_wp2;go_quiet (fail)
   go_wp2;go_ret;exact⟨by rw[t.out];rfl,zI c _⟩
  have t:=Ry (W.out λj G=>M.out j (by omega));go_wp2;go_ret;exact⟨by rw[t.out];rfl,c⟩
 have K:¬(a.length:Int)=(b.length:Int):=by omega
 have t:Hid (decide (a=b)=false):=show decide (a=b)=false by
  simp only[decide_eq_false_iff_not];rintro rfl;exact d rfl
 generalize decide (a=b)=r at *;clear u v d;go_enter func84,ntmps84;go_wp2;go_ret;exact⟨by rw[t.out];rfl,zp _ _⟩
def mZ(w:World)(v:Value)(fs:List zC):Prop:=∃b a,v=.slice b fs.length a/\∀i (h:i<fs.length),∃g c d,b=some ⟨g,0,none⟩/\g<w.heap.size/\w.cell? ⟨g,i*3,none⟩=some (.string fs[i].1)/\w.cell? ⟨g,i*3+1,none⟩=some c/\w.cell? ⟨g,i*3+2,none⟩=some (ι (fs[i].2.2:Nat))/\R7 d w c fs[i].2.1
def mZ.below{w w':World}{v:Value}{fs:List zC}(h:mZ w v fs)(a:μ w w'):mZ w' v fs:=by
 obtain⟨k,c,l,p⟩:=h;refine⟨k,c,l,λi n=>?_⟩;obtain⟨g,f,q,o,b,d,j,e,m⟩:=p i n;exact⟨g,f,q,o,yE b a.size,(zl a b d),(zl a b j),(zl a b e),m.below a⟩
def CV{F:Nat}(w:World)(x rd:Nat)(v:Value)(fs:List zC)(b:ByteArray)(C:Value)(row:κ)(G:Rz w x #[v,ι rd] 54)(h:mZ w v fs)(I:R7 F w C row)(hl:fs.length<=10000000)(N:row.length<=2000000)(A:∀f∈fs,f.2.1.length<=1000000):
  Calls prog 45 #[(π x),.string b,C] w λe w'=>e=ε (ι (dK b row fs))/\μ w w':=by
 have K:=Ry λW lo S (a:κ) (hb:μ w W) (Z:R7 lo W S a) (hq:a.length<=1000000)=>AV W S C a row Z (I.below hb) hq N;obtain⟨aa,U,rfl⟩:=I.qy;obtain⟨ao,H,rfl,d⟩:=h;have Y:w.cell? ⟨x,0,none⟩=some (.slice ao fs.length H):=by rw[G.rules.1];rfl
 have u:=G.lt;have HC:=Ry d;have J:=Ry A;have H0:Hid (yU b row fs=(yU b row (fs.drop 0)).map (·+0)):=show yU b row fs=_ by simp
 have P:Hid (dK b row fs=match yU b row fs with|none=>-1|some k=>(k:Int)):=show dK b row fs=_ from rfl
 clear d I A G;generalize dK b row fs=E at *;generalize yU b row fs=n at *;go_enter func45,ntmps45;go_wp2;go_loopw [7,8] (λi _ wr=>∃k:Nat,k<=fs.length/\i=ι k/\Hid (n=(yU b row (fs.drop k)).map (·+k))/\μ w wr) (λi _ _=>fs.length-(intOf i).toNat);exact⟨0,zv _,rfl,H0,zp _ _⟩;obtain⟨k,hk,rfl,M,c⟩:=hrel;have V:=c.size;by_cases p:k<fs.length
 .have t:(k:Int)<(fs.length:Int):=by omega
  obtain⟨g,rv,D,rfl,Q,R,T,_,X⟩:=HC.out k p;have xm:=zl c u Y;have s:x<wr.heap.size:=by omega
  have q:=M.out;rw[FX p] at q;have r:=Ry q;clear q M;have x0:=zl c Q R;have x1:=zl c Q T;have ab:g<wr.heap.size:=by omega
  have B:=Ry (K.out wr D _ _ c (X.below c) (J.out _ (zt p)));clear R T X;generalize fs[k].2.1=O at *;generalize fs[k].1=fp at *;by_cases o:fp=b
  .have L:=jF o;by_cases j:O=row
   .have y:Hid (n=some k):=show n=some k by rw[r.out,zb ⟨o,j⟩];simp
    have l:=Ry (show E=(k:Int) by rw[P.out,y.out]);rw[show decide (O=row)=true by simp[j]] at B;clear r o j;go_wp2_with (go_at_call 84;refine B.out.mono ?_;rintro e w1 ⟨rfl,m⟩)
    go_ret;exact⟨by rw[l.out];rfl,R5 c m⟩
   have y:Hid (n=(yU b row (fs.drop (k+1))).map (·+(k+1))):=show n=_ by
    rw[r.out,za (λz=>j z.2),Option.map_map];congr 1;funext z;simp only[Function.comp];omega
   rw[show decide (O=row)=false by simp[j]] at B;clear r o j;go_wp2_with (go_at_call 84;refine B.out.mono ?_;rintro e w1 ⟨rfl,m⟩)
   exact⟨⟨k+1,by omega,by go_num,y,R5 c m⟩,by simp[intOf];omega⟩
  have L:=qb o;have y:Hid (n=(yU b row (fs.drop (k+1))).map (·+(k+1))):=show n=_ by
   rw[r.out,za (λz=>o z.1),Option.map_map];congr 1;funext z;simp only[Function.comp];omega
  clear r o;go_wp2;exact⟨⟨k+1,by omega,by go_num,y,c⟩,by simp[intOf];omega⟩
 have t:¬(k:Int)<(fs.length:Int):=by omega
 have xm:=zl c u Y;have s:x<wr.heap.size:=by omega
 have l:Hid (E=-1):=show E=-1 by
  rw[P.out,M.out,ua (by omega)];rfl
 go_wp2;go_ret;exact⟨by rw[l.out];rfl,c⟩
def gF(B:y9)(t:ByteArray):Bool:=!zQ t||(RJ B t).isSome
def ET{lo A:Nat}(w:World)(M N:Value)(B:y9)(t:ByteArray)(x:R7 lo w M (x6 B))(v:R7 A w N (uc B))(hl:B.length<=1000)(R:0<t.size):
  Calls prog 211 #[.agg #[M,N],.string t] w λe C=>e=ε (.tuple #[.string (ym B t),.bool (gF B t)])/\Hid (μ w C):=by
 have i:Hid (∀W,Calls prog 154 #[.string t] W λe C=>e=ε (.bool (zQ t))/\C=W):=λW=>wI t W R;have I:(x6 B).length=B.length:=by simp[x6]
 have D:(uc B).length=B.length:=by simp[uc]
 obtain⟨j,c,rfl⟩:=x.qy;obtain⟨h,a,rfl⟩:=v.qy;rw[I] at x ⊢;rw[D] at v ⊢;have r:Hid (∀W k (n:k<B.length),μ w W->∃g,j=some ⟨g,0,none⟩/\g<W.heap.size/\W.cell? ⟨g,k,none⟩=some (.string B[k].1)):=λW k n z=>by
  obtain⟨g,F,E,y⟩:=(x.below z).cell k (by rw[I];exact n);exact⟨g,F,E,by rw[y];simp[x6]⟩
 have s:Hid (∀W k (n:k<B.length),μ w W->∃g,h=some ⟨g,0,none⟩/\g<W.heap.size/\W.cell? ⟨g,k,none⟩=some (.string B[k].2)):=λW k n z=>by
  obtain⟨g,F,E,y⟩:=(v.below z).cell k (by rw[D];exact n);exact⟨g,F,E,by rw[y];simp[uc]⟩
 clear x v I D;cases p:zQ t
 .rw[p] at i;have f:Hid (ym B t=t/\gF B t=true):=by unfold Hid ym gF;rw[p];simp
  clear p r s;go_enter func211,ntmps211;go_wp2_with (go_at_call 154;refine(i.out _).mono ?_;rintro e T ⟨rfl,m⟩;obtain rfl:=m.symm)
  go_ret2
  exact⟨by rw[f.out.1,f.out.2];rfl,(zp _ _).alloc (zf _) _⟩
 rw[p] at i;have f:Hid (ym B t=(RJ B t).getD ByteArray.empty/\gF B t=(RJ B t).isSome):=by unfold Hid ym gF;rw[p];simp
 clear p;go_enter func211,ntmps211;go_wp2_with (go_at_call 154;refine(i.out _).mono ?_;rintro e T ⟨rfl,m⟩;obtain rfl:=m.symm)
 have d:Hid (μ w (w.alloc (.cells #[.slice j B.length c,.slice h B.length a] 270))):=(zp _ _).alloc (zf _) _;have u:=Rz.new w #[.slice j B.length c,.slice h B.length a] 270;obtain⟨hc,hf,U⟩:=u.boxed;clear u;generalize J:w.alloc (.cells #[.slice j B.length c,.slice h B.length a] 270)=X at *;clear J;go_loopw [7] (λK wr=>∃k:Nat,k<=B.length/\K=ι k/\Hid (RJ B t=RJ (B.drop k) t)/\wr=X) (λK _=>B.length-(intOf K).toNat);exact⟨0,zv _,rfl,rfl,rfl⟩;obtain⟨k,n,rfl,H,L⟩:=hrel;obtain rfl:=L.symm;by_cases l:k<B.length
 .have G:(k:Int)<(B.length:Int):=by omega
  obtain⟨g1,rfl,O,Z⟩:=r.out _ k l d.out;obtain⟨Y,rfl,V,c2⟩:=s.out _ k l d.out;have q:=Kf l t;by_cases o:B[k].1=t
  .have S:=jF o;rw[zb o] at q;have b:Hid (ym B t=B[k].2/\gF B t=true):=by rw[Hid,f.out.1,f.out.2,H.out,q];exact⟨rfl,rfl⟩
   clear o q H f;generalize B[k].1=P at *;generalize B[k].2=x2 at *;go_wp2;go_ret2
   exact⟨by rw[b.out.1,b.out.2];rfl,d⟩
  have S:=qb o;rw[za o] at q;have Q:Hid (RJ B t=RJ (B.drop (k+1)) t):=by rw[Hid,H.out,q]
  clear o q H;generalize B[k].1=P at *;go_wp2;go_roundw;exact⟨k+1,by omega,by go_num,Q,trivial⟩;simp[intOf];omega
 have G:¬(k:Int)<(B.length:Int):=by omega
 have b:Hid (ym B t=ByteArray.empty/\gF B t=false):=by
  rw[Hid,f.out.1,f.out.2,H.out,ua (by omega)];exact⟨rfl,rfl⟩
 clear H f;go_wp2;go_ret2
 exact⟨by rw[b.out.1,b.out.2];rfl,d⟩
def M1{lo J X:Nat}(w:World)(f i Z:Value)(B:y9)(args:κ)(h1:R7 lo w f (x6 B))(h2:R7 J w i (uc B))(M:R7 X w Z args)(hl:B.length<=1000)(ha:args.length<=1000)(F:∀a∈args,0<a.size):
  Calls prog 195 #[.agg #[f,i],Z] w λe b=>∃v,e=.returned v/\Hid (R7 w.heap.size b v (yD B args))/\Hid (μ w b):=by
 obtain⟨i0,hi,S,L,D⟩:=info_parts QN;have G:=Ry λW t m K=>ET W f i B t (h1.below m) (h2.below m) hl K;obtain⟨ao,ag,rfl⟩:=M.qy;have HA:Hid (∀W k (C:k<args.length),μ w W->∃g,ao=some ⟨g,0,none⟩/\g<W.heap.size/\W.cell? ⟨g,k,none⟩=some (.string args[k])):=λW k C m=>(M.below m).cell k C;clear h1 h2 M;go_enter func195,ntmps195;go_wp2;have s:Hid (μ w (w.alloc (.cells #[f,i] 270))):=(zp _ _).alloc (zf _) _;have r:=Rz.new w #[f,i] 270;have I:=Ry r;have ae:=r.lt;clear r;generalize O:w.alloc (.cells #[f,i] 270)=A at *;clear O;go_loopw [5,6] (λv5 P wr=>∃k:Nat,k<=args.length/\P=ι k/\wr.ownsRow A.heap.size 9 1 v5 k ((yD B (args.take k)).map Value.string)/\Hid (μ A wr)) (λ_ P _=>args.length-(intOf P).toNat);exact⟨0,zv _,rfl,yW _ _ _ _,zp _ _⟩;obtain⟨k,C,rfl,c,h⟩:=hrel;obtain⟨af,ab,rfl⟩:=zq c;have n:=Ry (R5 s.out (h.out));have ad:=h.out.size;by_cases l:k<args.length
 .have N:(k:Int)<(args.length:Int):=by omega
  obtain⟨g,rfl,hg,z⟩:=HA.out _ k l n.out;have K:=F _ (zt l);have d:=(I.out.below h.out);obtain⟨hc,hf,Y⟩:=d.boxed;have V:Hid (yD B (args.take (k+1))=yD B (args.take k)++[ym B args[k]]):=by
   unfold Hid yD;rw[yP l,vg];rfl
  have HV:Hid (∀W,μ wr W->Calls prog 211 #[.agg #[f,i],.string args[k]] W λe b=>e=ε (.tuple #[.string (ym B args[k]),.bool (gF B args[k])])/\Hid (μ wr b)/\b.cell? ⟨g,k,none⟩=some (.string args[k])/\b.cell? ⟨w.heap.size,0,none⟩=some f/\b.cell? ⟨w.heap.size,1,none⟩=some i):=λW m=>by
   refine(G.out W args[k] (R5 n.out m) K).mono ?_;rintro e b ⟨q1,q2⟩;have p:=R5 m q2.out;have u:=d.below p;exact⟨q1,p,(zl p hg z),by rw[u.rules.1];rfl,by rw[u.rules.1];rfl⟩
  clear d;generalize ym B args[k]=x at *;generalize gF B args[k]=kn at *;generalize args[k]=y at *;go_upto_region 5 with fail
  go_cut [7,8] from 15 to 23 (λs7 _ wx=>s7=.string x/\Hid (μ wr wx))
  .go_region_held3 (λb=>b.cell? ⟨g,k,none⟩=some (.string y)/\b.cell? ⟨w.heap.size,0,none⟩=some f/\b.cell? ⟨w.heap.size,1,none⟩=some i) (first|go_keep|(go_simp;done)) (first|(go_at_call 211;refine(HV.out _ (by exact(by repeat'(first|with_reducible(first|apply zR|assumption|apply zN|apply zA|apply zD|apply zS)|go_size)))).mono ?_;rintro e w5 ⟨rfl,T,z0,z1,z2⟩))
   go_wp2;go_meet
   exact⟨rfl,T⟩
  obtain⟨rfl,o⟩:=hcut;have R:=zB c o.out;have aa:=o.out.size;have j:=Ry (R5 h.out o.out);clear hc hf z;go_wp2_with (at_builtin;refine kA wc _ _ _ rfl (.tmp 24) (.tmp 26) 30 rfl A.heap.size 9 i0 _ 1 16 underlying30 hi S L D rfl (by decide) _ _ _ rfl R (zp _ _) _ _ rfl (by simp) rfl (by simp[Value.oneCell']) (by omega) (by omega) j.out.size ?_;intro v' w2 E H Q U ah ac;clear Q U)
  go_roundw;exact⟨k+1,by omega,by go_num,by rw[V.out];simpa using E,j.out.trans H⟩;simp[intOf];omega
 have N:¬(k:Int)<(args.length:Int):=by omega
 obtain rfl:k=args.length:=by omega
 go_wp2;go_ret;refine⟨_,rfl,?_,n⟩;have q:=c;rw[uR] at q;have e:(yD B args).length=args.length:=by simp[yD]
 unfold Hid R7;rw[e];exact yk q (by have:=s.out.size;omega)
end
section
open Go.Proofs.Tryz
variable {B:y9}{lo:Nat}
def NO{t:ByteArray}(b:qn B)(a:0<t.size):gF B t=true↔ym B t≠ByteArray.empty:=by
 unfold gF ym;cases zQ t;simp only[Bool.not_false,Bool.true_or,true_iff,gQ,if_false];rintro rfl;exact z9 a (by decide);simp only[mX,pk,if_true];rcases c:RJ B t with _|x;simp;simp[b t x c]
def Og{y z:ByteArray}(b:qn B)(c:z≠ByteArray.empty):qn (B++[(y,z)]):=by
 intro v x h;rw[sm] at h;rcases a:RJ B v with _|u;rw[a] at h;simp only[Option.none_or,RJ] at h;split at h;cases h;exact c;cases h;rw[a] at h;simp only[Option.some_or,zr] at h;rw[←h];exact b v u a
structure CR (lo:Nat) (w:World) (cb:Nat) (B:y9) (v1 v2:Value):Prop where
 box:Rz w cb #[v1,v2] 270
 fst:w.ownsRow lo 9 1 v1 B.length ((x6 B).map Value.string)
 snd:w.ownsRow lo 9 1 v2 B.length ((uc B).map Value.string)
 ne:∀b,v1.ownBlock=some b->v2.ownBlock≠some b
def CR.sf{w:World}{c:Nat}{a b:Value}(h:CR lo w c B a b):R7 lo w a (x6 B):=by unfold R7;rw[ib];exact h.fst
def CR.ss{w:World}{b:Nat}{c a:Value}(h:CR lo w b B c a):R7 lo w a (uc B):=by unfold R7;rw[oj];exact h.snd
def CR.below{lo:Nat}{w w':World}{c:Nat}{B:y9}{d b:Value}(h:CR lo w c B d b)(a:μ w w'):CR lo w' c B d b:=⟨h.box.below a,zB h.fst a,zB h.snd a,h.ne⟩
def Pe{aQ bh bp:Nat}(w:World)(X lv av rv:Value)(B:y9)(args row:κ)(h1:R7 lo w X (x6 B))(h2:R7 aQ w lv (uc B))(h3:R7 bh w av args)(h4:R7 bp w rv row)(hl:B.length<=100)(ha:args.length<=100)(hr:row.length=args.length)(aU:∀a∈args,0<a.size)(hF:qn B)(aJ:∀x∈row,x≠ByteArray.empty):
  Calls prog 196 #[.agg #[X,lv],av,rv] w λe S=>∃(n1 c1:Nat) (o1:Option Addr) (n2 c2:Nat) (o2:Option Addr),e=ε (.tuple #[.agg #[.slice o1 n1 c1,.slice o2 n2 c2],.bool (xy B args row).isSome])/\Hid (∀B',xy B args row=some B'->R7 w.heap.size S (.slice o1 n1 c1) (x6 B')/\R7 w.heap.size S (.slice o2 n2 c2) (uc B')/\B'.length<=B.length+args.length)/\Hid (μ w S):=by
 obtain⟨i0,hi,aW,aR,aT⟩:=info_parts QN;have aI:Hid (∀W,μ w W->R7 lo W X (x6 B)/\R7 aQ W lv (uc B)):=λW i=>⟨h1.below i,h2.below i⟩;obtain⟨ao,bx,rfl⟩:=h3.qy;obtain⟨bg,bv,rfl⟩:=h4.qy;have HA:Hid (∀W k (hk:k<args.length),μ w W->∃g,ao=some ⟨g,0,none⟩/\g<W.heap.size/\W.cell? ⟨g,k,none⟩=some (.string args[k])):=λW k hk i=>(h3.below i).cell k hk;have HR:Hid (∀W k (hk:k<row.length),μ w W->∃g,bg=some ⟨g,0,none⟩/\g<W.heap.size/\W.cell? ⟨g,k,none⟩=some (.string row[k])):=λW k hk i=>(h4.below i).cell k hk;have e1:(x6 B).length<=1000000:=by simp[x6];omega
 have e2:(uc B).length<=1000000:=by simp[uc];omega
 clear h1 h2 h3 h4;go_enter func196,ntmps196;go_upto_region 2 with fail
 have az:Hid (μ w (((w.alloc (.cells #[X,lv] 270)).alloc (.cells #[ν,ν] 270)).alloc (.cells #[ν,ν] 270))):=(zP.alloc (by simp) _).alloc (by simp;omega) _;have ai:=ie (ie (Rz.new w #[X,lv] 270) (.cells #[ν,ν] 270)) (.cells #[ν,ν] 270);have aV:=ie (Rz.newAt (w.alloc (.cells #[X,lv] 270)) (w.heap.size+1) #[ν,ν] 270 (by simp)) (.cells #[ν,ν] 270);have a5:=Rz.newAt ((w.alloc (.cells #[X,lv] 270)).alloc (.cells #[ν,ν] 270)) (w.heap.size+1+1) #[ν,ν] 270 (by simp);have aY:(((w.alloc (.cells #[X,lv] 270)).alloc (.cells #[ν,ν] 270)).alloc (.cells #[ν,ν] 270)).heap.size=w.heap.size+1+1+1:=by simp
 generalize bb:((w.alloc (.cells #[X,lv] 270)).alloc (.cells #[ν,ν] 270)).alloc (.cells #[ν,ν] 270)=wA at *;clear bb;obtain⟨c0,f0⟩:=ai.rules;obtain⟨c2,f2⟩:=a5.rules;go_upto_region 3 with (first|(at_builtin;refine Dr rfl (.tmp 14) (.tmp 16) rfl (x6 B) X rfl rfl (aI.out _ az.out).1 e1 ?_;intro v1 w1 au U;have M:=a5.below U;obtain⟨d2,g2,Y⟩:=M.boxed;have br:=U.size;obtain⟨C,n,rfl⟩:=au.qy))
 have ay:=ai.lt;have a8:Hid (Rz (w1.setCell ⟨w.heap.size+1+1,0,none⟩ (.slice C (x6 B).length n)) w.heap.size #[X,lv] 270):=(ai.below U).set_ne (by omega) 0 _;have aL:Hid (Rz (w1.setCell ⟨w.heap.size+1+1,0,none⟩ (.slice C (x6 B).length n)) (w.heap.size+1) #[ν,ν] 270):=(aV.below U).set_ne (by omega) 0 _;have am:Hid (Rz (w1.setCell ⟨w.heap.size+1+1,0,none⟩ (.slice C (x6 B).length n)) (w.heap.size+1+1) #[.slice C (x6 B).length n,ν] 270):=M.set 0 _;have a2:Hid (μ w (w1.setCell ⟨w.heap.size+1+1,0,none⟩ (.slice C (x6 B).length n))):=(zM az.out U (by omega)).setCell (p:=⟨w.heap.size+1+1,0,none⟩) (by show w.heap.size<=w.heap.size+1+1;omega) _;have an:Hid (R7 wA.heap.size (w1.setCell ⟨w.heap.size+1+1,0,none⟩ (.slice C (x6 B).length n)) (.slice C (x6 B).length n) (x6 B)):=yK au (zc.set w1 (w.heap.size+1+1) 0 (.slice C (x6 B).length n)) (λb i E=>by have:=yX au i;simp at E;omega);have bd:w1.heap.size<=(w1.setCell ⟨w.heap.size+1+1,0,none⟩ (.slice C (x6 B).length n)).heap.size:=by simp[World.setCell]
 clear c0 f0 c2 f2 d2 g2 Y M ai aV a5 U au ay;generalize w1.setCell ⟨w.heap.size+1+1,0,none⟩ (.slice C (x6 B).length n)=wB at *;obtain⟨c0,f0⟩:=a8.out.rules;obtain⟨c2,f2⟩:=am.out.rules;have ay:=a8.out.lt;have Y:=am.out.lt;go_upto_region 4 with (first|(at_builtin;refine Dr rfl (.tmp 20) (.tmp 22) rfl (uc B) lv rfl rfl (aI.out _ a2.out).2 e2 ?_;intro v2 F s Q;have M:=am.out.below Q;obtain⟨d2,g2,bi⟩:=M.boxed;have bt:=Q.size;obtain⟨K,A,rfl⟩:=s.qy))
 have hL:∀b,w.heap.size+1+1≠b->True:=λ_ _=>trivial;have Z:Hid (CR w.heap.size (F.setCell ⟨w.heap.size+1+1,1,none⟩ (.slice K (uc B).length A)) (w.heap.size+1+1) B (.slice C (x6 B).length n) (.slice K (uc B).length A)):=⟨M.set 1 _,by rw[←ib B];exact yK (yk (zB an.out Q) (by omega)) (zc.set F (w.heap.size+1+1) 1 (.slice K (uc B).length A)) (λb i E=>by have:=yX an.out i;simp at E;omega),by rw[←oj B];exact yK (yk s (by omega)) (zc.set F (w.heap.size+1+1) 1 (.slice K (uc B).length A)) (λb i E=>by have:=yX s i;simp at E;omega),λb i E=>by have:=yA an.out i;have:=yX s E;omega⟩;have aP:Hid (Rz (F.setCell ⟨w.heap.size+1+1,1,none⟩ (.slice K (uc B).length A)) (w.heap.size+1) #[ν,ν] 270):=(aL.out.below Q).set_ne (by omega) 1 _;have aM:Hid (μ w (F.setCell ⟨w.heap.size+1+1,1,none⟩ (.slice K (uc B).length A))):=(zM a2.out Q (by omega)).setCell (p:=⟨w.heap.size+1+1,1,none⟩) (by show w.heap.size<=w.heap.size+1+1;omega) _;clear c0 f0 c2 f2 d2 g2 ay Y bi M Q s an a8 aL am a2 hL bd br bt aY az;generalize F.setCell ⟨w.heap.size+1+1,1,none⟩ (.slice K (uc B).length A)=wC at *;clear w1 F wA wB;rw[ib,oj] at Z;go_wp2;go_loopw [9] (λv9 wr=>∃(k:Nat) (c:y9) (t:Option Addr) (j:Nat) (m:Option Addr) (d:Nat),k<=args.length/\v9=ι k/\Hid (CR w.heap.size wr (w.heap.size+1+1) c (.slice t c.length j) (.slice m c.length d))/\Hid (xy B args row=xy c (args.drop k) (row.drop k))/\c.length<=B.length+k/\Hid (qn c)/\Hid (Rz wr (w.heap.size+1) #[ν,ν] 270)/\Hid (μ w wr)) (λv9 _=>args.length-(intOf v9).toNat);exact⟨0,B,C,n,K,A,zv _,rfl,Z,rfl,zf _,hF,aP,aM⟩;clear Z aP aM e1 e2;obtain⟨k,c,t,j,m,d,hk,rfl,Z,HW,bz,a3,HZ,P⟩:=hrel;have bw:=P.out.size;have al:=Z.out.box;obtain⟨hc,hf,aq⟩:=al.boxed;obtain⟨af,ac,ad⟩:=HZ.out.boxed;by_cases a0:k<args.length
 .have ba:(k:Int)<(args.length:Int):=by omega
  have aj:k<row.length:=by omega
  obtain⟨g,rfl,hg,aB⟩:=HA.out _ k a0 P.out;obtain⟨gr,rfl,aX,aK⟩:=HR.out _ k aj P.out;have ht:=aU _ (zt a0);have aS:=OX (B:=c) a0 aj;have HV:Hid (∀W,μ wr W->Calls prog 211 #[.agg #[.slice t c.length j,.slice m c.length d],.string args[k]] W λe S=>e=ε (.tuple #[.string (ym c args[k]),.bool (gF c args[k])])/\Hid (μ wr S)/\S.cell? ⟨g,k,none⟩=some (.string args[k])/\S.cell? ⟨w.heap.size+1+1,0,none⟩=some (.slice t c.length j)/\S.cell? ⟨w.heap.size+1+1,1,none⟩=some (.slice m c.length d)):=λW i=>by
   refine(ET W _ _ c args[k] (Z.out.sf.below i) (Z.out.ss.below i) (by omega) ht).mono ?_;rintro e S ⟨q1,q2⟩;have a1:=R5 i q2.out;have aD:=al.below a1;exact⟨q1,a1,(zl a1 hg aB),by rw[aD.rules.1];rfl,by rw[aD.rules.1];rfl⟩
  have aG:Hid (∀W,μ wr W->W.cell? ⟨g,k,none⟩=some (.string args[k])/\g<W.heap.size/\W.cell? ⟨gr,k,none⟩=some (.string row[k])/\gr<W.heap.size):=λW i=>⟨(zl i hg aB),yE hg i.size,(zl i aX aK),yE aX i.size⟩;have bk:Hid (∀W,μ w W->W.cell? ⟨gr,k,none⟩=some (.string row[k])/\gr<W.heap.size):=λW i=>by
   obtain⟨g',e,q1,q2⟩:=HR.out W k aj i;cases e;exact⟨q2,q1⟩
  have HD:=Ry (HW.out.trans aS);have aH:=Ry (NO a3.out ht);have bq:=Ry (aJ _ (zt aj));clear aS HW ht aU al aJ hF;generalize gF c args[k]=kn at *;generalize ym c args[k]=x at *;generalize args[k]=y at *;generalize row[k]=z at *;go_upto_region 7 with fail
  go_cut [10,11] from 31 to 39 (λa9 aC wx=>a9=.string x/\aC=.bool kn/\Hid (μ wr wx))
  .go_region_held3 (λS=>S.cell? ⟨g,k,none⟩=some (.string y)/\S.cell? ⟨w.heap.size+1+1,0,none⟩=some (.slice t c.length j)/\S.cell? ⟨w.heap.size+1+1,1,none⟩=some (.slice m c.length d)) (first|go_keep|(go_simp;done)) (first|(go_at_call 211;refine(HV.out _ (by exact(by repeat'(first|with_reducible(first|apply zR|assumption|apply zN|apply zA|apply zD|apply zS)|go_size)))).mono ?_;rintro e w5 ⟨rfl,bo,z0,z1,z2⟩))
   go_wp2;go_meet
   exact⟨rfl,rfl,bo⟩
  obtain⟨rfl,rfl,R⟩:=hcut;have bu:=R.out.size;obtain⟨ax,bs,ab,aw⟩:=aG.out _ R.out;have T:=Ry (HZ.out.below R.out);have O:=Ry (zM P.out R.out (by omega));have J:=Ry (Z.out.below R.out);clear hc hf aB aK aq af ac ad HV aG Z HZ P R;obtain⟨hc,hf,aq⟩:=J.out.box.boxed;obtain⟨af,ac,ad⟩:=T.out.boxed;by_cases hx:x=ByteArray.empty
  .obtain rfl:kn=false:=by
    cases kn;rfl;exact z9 hx (aH.out.1 rfl)
   have aZ:Hid (qn (c++[(y,z)])):=Og a3.out bq.out;have G:Hid (xy B args row=xy (c++[(y,z)]) (args.drop (k+1)) (row.drop (k+1))):=by rw[Hid,HD.out,zb hx]
   have D:=J.out.fst;have o:=J.out.snd;clear HD hx;go_upto_region 11 with fail
   go_cut [10,11] from 52 to 60 (λa9 aC wx=>∃r f,a9=.string x/\aC=.bool false/\Hid (Rz wx (w.heap.size+1+1) #[.slice r (c.length+1) f,.slice m c.length d] 270)/\Hid (wx.ownsRow w.heap.size 9 1 (.slice r (c.length+1) f) (c.length+1) ((x6 c).map Value.string++[.string y]))/\Hid (wx.ownsRow w.heap.size 9 1 (.slice m c.length d) c.length ((uc c).map Value.string))/\Hid (∀b,(Value.slice r (c.length+1) f).ownBlock=some b->(Value.slice m c.length d).ownBlock≠some b)/\Hid (Rz wx (w.heap.size+1) #[ν,ν] 270)/\Hid (μ w wx))
   .go_region_law (first|(refine fw wc _ [.string y] 9 rfl (.tmp 53) (.tmp 58) 30 rfl w.heap.size 9 i0 _ 1 16 underlying30 hi aW aR aT rfl (by decide) (.slice t c.length j) c.length ((x6 c).map Value.string) (by simp[Act.eval]) D (by exact(by repeat'(first|with_reducible(first|apply zR|assumption|apply zN|apply zA|apply zD|apply zS)|go_size))) wc.heap.size 1 (by simp[Act.eval]) (by exact Rz.drew (Rz.new _ _ _)) rfl (by simp[Value.oneCell']) (by omega) (by omega) (by omega) ?_;intro v' F L s ah bn aE;obtain⟨r,f,rfl⟩:=zq L;have I:=J.out.box.save s (qK D J.out.box (by decide));obtain⟨aF,aN,Y⟩:=I.boxed))
    all_goals
     have aa:=yK o s (λb i E=>J.out.ne b (xb E) i);have aA:=T.out.save s (qK D T.out (by decide));have a4:=s.below (B:=w.heap.size) (λb i=>yX D (xb i)) (by omega);have ae:∀b,(Value.slice r (c.length+1) f).ownBlock=some b->(Value.slice m c.length d).ownBlock≠some b:=λb i hq=>by
      rcases ah with q|⟨g9,q,q2⟩;exact J.out.ne b (q ▸ i) hq;rw[i] at q;cases q;have:=yA o hq;omega
     have V:Hid (Rz (F.setCell ⟨w.heap.size+1+1,0,none⟩ (.slice r (c.length+1) f)) (w.heap.size+1+1) #[.slice r (c.length+1) f,.slice m c.length d] 270):=I.set 0 _;have ak:Hid ((F.setCell ⟨w.heap.size+1+1,0,none⟩ (.slice r (c.length+1) f)).ownsRow w.heap.size 9 1 (.slice r (c.length+1) f) (c.length+1) ((x6 c).map Value.string++[.string y])):=yK L (zc.set _ _ _ _) (λb i E=>vD L I (by decide) i (by simpa using E));have a7:Hid ((F.setCell ⟨w.heap.size+1+1,0,none⟩ (.slice r (c.length+1) f)).ownsRow w.heap.size 9 1 (.slice m c.length d) c.length ((uc c).map Value.string)):=yK aa (zc.set _ _ _ _) (λb i E=>vD aa I (by decide) i (by simpa using E));have ap:Hid (Rz (F.setCell ⟨w.heap.size+1+1,0,none⟩ (.slice r (c.length+1) f)) (w.heap.size+1) #[ν,ν] 270):=aA.set_ne (by omega) 0 _;have ar:Hid (μ w (F.setCell ⟨w.heap.size+1+1,0,none⟩ (.slice r (c.length+1) f))):=(O.out.trans a4).setCell (p:=⟨w.heap.size+1+1,0,none⟩) (by show w.heap.size<=w.heap.size+1+1;omega) _;go_wp2;go_meet
     exact⟨r,f,rfl,rfl,V,ak,a7,ae,ap,ar⟩
   obtain⟨r,f,rfl,rfl,V,ak,a7,aO,ap,ar⟩:=hcut;clear hc hf af ac aq ad ax ab T O J D o bs aw;obtain⟨ab,aw⟩:=bk.out _ ar.out;obtain⟨hc,hf,aq⟩:=V.out.boxed;have o:=a7.out;go_upto_region 12 with fail
   go_region_law (first|(refine fw wc _ [.string z] 9 rfl (.tmp 62) (.tmp 67) 30 rfl w.heap.size 9 i0 _ 1 16 underlying30 hi aW aR aT rfl (by decide) (.slice m c.length d) c.length ((uc c).map Value.string) (by simp[Act.eval]) o (by exact(by repeat'(first|with_reducible(first|apply zR|assumption|apply zN|apply zA|apply zD|apply zS)|go_size))) wc.heap.size 1 (by simp[Act.eval]) (by exact Rz.drew (Rz.new _ _ _)) rfl (by simp[Value.oneCell']) (by omega) (by omega) (by omega) ?_;intro v' F L s ah bn aE;obtain⟨H,u,rfl⟩:=zq L;have I:=V.out.save s (qK o V.out (by decide));obtain⟨aF,aN,Y⟩:=I.boxed))
   all_goals
    have aa:=yK ak.out s (λb i E=>aO.out b i (xb E));have aA:=ap.out.save s (qK o ap.out (by decide));have a4:=s.below (B:=w.heap.size) (λb i=>yX o (xb i)) (by omega);have ae:∀b,(Value.slice r (c.length+1) f).ownBlock=some b->(Value.slice H (c.length+1) u).ownBlock≠some b:=λb i hq=>by
     rcases ah with q|⟨g9,q,q2⟩;exact aO.out b i (q ▸ hq);rw[hq] at q;cases q;have:=yA ak.out i;omega
    have bf:Hid (CR w.heap.size (F.setCell ⟨w.heap.size+1+1,1,none⟩ (.slice H (c.length+1) u)) (w.heap.size+1+1) (c++[(y,z)]) (.slice r (c.length+1) f) (.slice H (c.length+1) u)):=by
     refine⟨I.set 1 _,?_,?_,ae⟩;have q:=yK aa (zc.set F (w.heap.size+1+1) 1 (.slice H (c.length+1) u)) (λb i E=>vD aa I (by decide) i (by simpa using E));rw[yC];simpa [x6] using q;have q:=yK L (zc.set F (w.heap.size+1+1) 1 (.slice H (c.length+1) u)) (λb i E=>vD L I (by decide) i (by simpa using E));rw[yC];simpa [uc] using q
    have bc:Hid (Rz (F.setCell ⟨w.heap.size+1+1,1,none⟩ (.slice H (c.length+1) u)) (w.heap.size+1) #[ν,ν] 270):=aA.set_ne (by omega) 1 _;have bm:Hid (μ w (F.setCell ⟨w.heap.size+1+1,1,none⟩ (.slice H (c.length+1) u))):=(ar.out.trans a4).setCell (p:=⟨w.heap.size+1+1,1,none⟩) (by show w.heap.size<=w.heap.size+1+1;omega) _;clear aF aN;generalize F.setCell ⟨w.heap.size+1+1,1,none⟩ (.slice H (c.length+1) u)=wN at *;go_wp2;go_roundw;exact⟨k+1,c++[(y,z)],r,f,H,u,by omega,by go_num,by rw[yC];exact bf,G,by simp;omega,aZ,bc,bm⟩;simp[intOf];omega
  obtain rfl:kn=true:=aH.out.2 hx;by_cases hy:x=z
  .have be:=jF hy;have G:Hid (xy B args row=xy c (args.drop (k+1)) (row.drop (k+1))):=by rw[Hid,HD.out,za hx,zb hy]
   clear HD hx hy;go_wp2;go_roundw;exact⟨k+1,c,t,j,m,d,by omega,by go_num,J,G,by omega,a3,T,O⟩;simp[intOf];omega
  have be:=qb hy;have G:Hid (xy B args row=none):=by rw[Hid,HD.out,za hx,za hy]
  clear HD hx hy;go_wp2;have a6:Hid (μ w ((wc.setCell ⟨w.heap.size+1,0,none⟩ (.slice t c.length j)).setCell ⟨w.heap.size+1,1,none⟩ (.slice m c.length d))):=(O.out.setCell (p:=⟨w.heap.size+1,0,none⟩) (by show w.heap.size<=w.heap.size+1;omega) _).setCell (p:=⟨w.heap.size+1,1,none⟩) (by show w.heap.size<=w.heap.size+1;omega) _;have N:=(T.out.set 0 (.slice t c.length j)).set 1 (.slice m c.length d);have n0:=N.rules.1 0;have n1:=N.rules.1 1;clear hc hf af ac ax ab N;generalize (wc.setCell ⟨w.heap.size+1,0,none⟩ (.slice t c.length j)).setCell ⟨w.heap.size+1,1,none⟩ (.slice m c.length d)=wN at *
  (try simp only[Exit.inBlock,Exit.then])
  refine zO (by simp[results,results196,go_sem,n0,n1];try rfl) rfl ?_;refine⟨_,_,_,_,_,_,by rw[G.out];rfl,λB' ag=>(by rw[G.out] at ag;cases ag),?_⟩;exact a6
 have ba:¬(k:Int)<(args.length:Int):=by omega
 have G:Hid (xy B args row=some c):=by
  rw[Hid,HW.out,ua (by omega)];rfl
 clear HW;go_wp2;have a6:Hid (μ w ((wr.setCell ⟨w.heap.size+1,0,none⟩ (.slice t c.length j)).setCell ⟨w.heap.size+1,1,none⟩ (.slice m c.length d))):=(P.out.setCell (p:=⟨w.heap.size+1,0,none⟩) (by show w.heap.size<=w.heap.size+1;omega) _).setCell (p:=⟨w.heap.size+1,1,none⟩) (by show w.heap.size<=w.heap.size+1;omega) _;have q:∀{v:Value} {l:κ} (h:R7 w.heap.size wr v l),R7 w.heap.size ((wr.setCell ⟨w.heap.size+1,0,none⟩ (.slice t c.length j)).setCell ⟨w.heap.size+1,1,none⟩ (.slice m c.length d)) v l:=λh=>yK h ((zc.set wr (w.heap.size+1) 0 _).trans (zc.set _ (w.heap.size+1) 1 _)) (λb i E=>vD h HZ.out (by decide) i (by simpa using E));have q1:=q Z.out.sf;have q2:=q Z.out.ss;have N:=(HZ.out.set 0 (.slice t c.length j)).set 1 (.slice m c.length d);have n0:=N.rules.1 0;have n1:=N.rules.1 1;clear hc hf af ac N q al;generalize (wr.setCell ⟨w.heap.size+1,0,none⟩ (.slice t c.length j)).setCell ⟨w.heap.size+1,1,none⟩ (.slice m c.length d)=wN at *
 (try simp only[Exit.inBlock,Exit.then])
 refine zO (by simp[results,results196,go_sem,n0,n1];try rfl) rfl ?_;refine⟨_,_,_,_,_,_,by rw[G.out];rfl,λB' ag=>?_,?_⟩;rw[G.out] at ag;cases ag;exact⟨q1,q2,by omega⟩;exact a6
end
section
open Go.Proofs.Tryz
variable {z:Nat->Prop}{l:κ}
def S0(z:Nat->Prop)(n:Nat):Prop:=∀b,z b->b<n
def S0.up{n m:Nat}(h:S0 z n)(a:n<=m):S0 z m:=λb q=>yE (h b q) a
def SA(z:Nat->Prop)(w:World)(v:Value)(l:κ):Prop:=R7 0 w v l/\∀b,v.ownBlock=some b->¬z b
def SA.below{w w':World}{v:Value}{l:κ}(h:SA z w v l)(a:μ w w'):SA z w' v l:=⟨h.1.below a,h.2⟩
def SA.saveT{w w':World}{v:Value}{M:List Nat}{T:TypeId}(h:SA z w v l)(hs:zc M w w')(b:RL w T M)(a:9≠T):SA z w' v l:=⟨yI h.1 hs b a,h.2⟩
def SA.of{lo:Nat}{w:World}{v:Value}(h:R7 lo w v l)(a:S0 z lo):SA z w v l:=⟨yk h (zv _),λb e q=>by have:=yX h e;have:=a b q;omega⟩
def Ru:(prog.info? 30).map (λi=>(i.zero,i.size,i.bytes))=some (some (ν),1,24):=by kernel_rfl
structure Tz (z:Nat->Prop) (w:World) (gb go:Nat) (c:zd):Prop where
 lt:gb<w.heap.size
 pred:w.cell? ⟨gb,go+1,none⟩=some (.string c.head.pred)
 args:∃av,w.cell? ⟨gb,go+2,none⟩=some av/\SA z w av c.head.args
 body:∃ao cap,w.cell? ⟨gb,go+3,none⟩=some (.slice ao c.body.length cap)/\∀j (h:j<c.body.length),∃g,ao=some ⟨g,0,none⟩/\g<w.heap.size/\w.cell? ⟨g,j*3,none⟩=some (.bool c.body[j].neg)/\w.cell? ⟨g,j*3+1,none⟩=some (.string c.body[j].pred)/\∃av,w.cell? ⟨g,j*3+2,none⟩=some av/\R7 0 w av c.body[j].args
def Tz.below{w w':World}{k i:Nat}{c:zd}(h:Tz z w k i c)(a:μ w w'):Tz z w' k i c:=by
 obtain⟨b,o,⟨e,u,t⟩,s,f,x,q⟩:=h;refine⟨yE b a.size,(zl a b o),⟨e,(zl a b u),t.below a⟩,s,f,(zl a b x),λj p=>?_⟩;obtain⟨g,v,d,r,m,e,y,n⟩:=q j p;exact⟨g,v,yE d a.size,(zl a d r),(zl a d m),e,(zl a d y),n.below a⟩
structure lr (z:Nat->Prop) (w:World) (mb rd gb go:Nat) (fv vv lv:Value) (c:zd) (fs:List zC) (B:y9):Prop where
 model:Rz w mb #[fv,ι rd] 54
 facts:mZ w fv fs
 cl:Tz z w gb go c
 fst:R7 0 w vv (x6 B)
 snd:R7 0 w lv (uc B)
 hz:S0 z w.heap.size
def lr.below{w w':World}{j e b f:Nat}{i d g:Value}{c:zd}{fs:List zC}{B:y9}(h:lr z w j e b f i d g c fs B)(a:μ w w'):lr z w' j e b f i d g c fs B:=⟨h.model.below a,h.facts.below a,h.cl.below a,h.fst.below a,h.snd.below a,h.hz.up a.size⟩
def xx(z:Nat->Prop)(lo:Nat)(w:World)(v:Value)(a:List (κ)):Prop:=∃b:List Value,b.length=a.length/\w.ownsRow lo 30 1 v a.length b/\∀i (h:i<a.length) (c:i<b.length),SA z w b[i] a[i]
def xx.nil(lo:Nat)(w:World):xx z lo w (ν) []:=⟨[],rfl,yW _ _ _ _,λi h=>by cases h⟩
def xx.below{lo:Nat}{w w':World}{v:Value}{c:List (κ)}(h:xx z lo w v c)(e:μ w w'):xx z lo w' v c:=by
 obtain⟨d,g,j,f⟩:=h;exact⟨d,g,zB j e,λi a b=>(f i a b).below e⟩
def Jw(w:World)(mb rd C K:Nat)(fv r s:Value)(c:zd)(fs:List zC)(B:y9)(hI:lr z w mb rd C K fv r s c fs B)(aJ:c.body.length<=100)(aH:B.length<=100)(P:∀l∈zm c,l.args.length<=100/\∀a∈l.args,0<a.size)(a9:fs.length<=10000000)(aw:∀f∈fs,f.2.1.length<=1000000):
  Calls prog 166 #[(π mb),.pointer (some ⟨C,K,none⟩),ι c.body.length,.agg #[r,s]] w λe d=>∃v,e=.returned v/\Hid (xx z w.heap.size d v (yp fs c.head c.body [] B))/\Hid (μ w d):=by
 obtain⟨i0,hi,aA,a5,a8⟩:=info_parts Ru;obtain⟨ao,Q,av,_⟩:=hI.cl.body;have y:=Ry λW (i:μ w W)=>hI.below i;have A:Hid (∀W,μ w W->W.cell? ⟨C,K+3,none⟩=some (.slice ao c.body.length Q)/\C<W.heap.size):=λW i=>⟨(i.cell (p:=⟨C,K+3,none⟩) hI.cl.lt).trans av,(hI.below i).cl.lt⟩;have af:Hid (∀W j (u:j<c.body.length),μ w W->∃g,ao=some ⟨g,0,none⟩/\g<W.heap.size/\W.cell? ⟨g,j*3,none⟩=some (.bool c.body[j].neg)/\W.cell? ⟨g,j*3+1,none⟩=some (.string c.body[j].pred)/\∃n,W.cell? ⟨g,j*3+2,none⟩=some n/\R7 0 W n c.body[j].args):=λW j u i=>by
  obtain⟨aG,aE,L,q2⟩:=(hI.below i).cl.body;rw[(A.out W i).1] at L;cases L;exact q2 j u
 have X:Hid (∀W (l:zk) n,l∈zm c->μ w W->R7 0 W n l.args->Calls prog 195 #[.agg #[r,s],n] W λe d=>∃v,e=.returned v/\Hid (R7 W.heap.size d v (yD B l.args))/\Hid (μ W d)):=λW l n hl i ha=>M1 W r s n B l.args (y.out W i).fst (y.out W i).snd ha (by omega) (by have:=(P _ hl).1;omega) (P _ hl).2;have Z:Hid (∀W j (u:j<c.body.length) rv ar,μ w W->R7 ar W rv (yD B c.body[j].args)->Calls prog 45 #[(π mb),.string c.body[j].pred,rv] W λe d=>e=ε (ι (dK c.body[j].pred (yD B c.body[j].args) fs))/\μ W d):=λW j u rv ar i hr=>CV W mb rd fv fs _ rv _ (y.out W i).model (y.out W i).facts hr a9 (by have:=(P c.body[j] (by simp[zm])).1;simp[yD];omega) aw;have J:Hid (∀k (hk:k<c.body.length),c.body[k].neg=true->(yU c.body[k].pred (yD B c.body[k].args) fs).isSome=true->yp fs c.head c.body [] B=[]):=λk hk hn hs=>by
  unfold yp;rw[zb];rw[gi];exact⟨c.body[k],zt _,by rw[hn,hs];rfl⟩
 have I:Hid ((∀k (hk:k<c.body.length),¬(c.body[k].neg=true/\(yU c.body[k].pred (yD B c.body[k].args) fs).isSome=true))->yp fs c.head c.body [] B=[yD B c.head.args]):=λq=>by
  unfold yp;rw[za];intro hq;rw[gi] at hq;obtain⟨l,hl,hq⟩:=hq;obtain⟨j,u,rfl⟩:=uO hl;rw[uG] at hq;exact q j u hq
 have ax:Hid (∀W,μ w W->∃n,W.cell? ⟨C,K+2,none⟩=some n/\R7 0 W n c.head.args):=λW i=>by
  obtain⟨n,L,q2⟩:=(y.out W i).cl.args;exact⟨n,L,q2.1⟩
 have hz:=hI.hz;obtain⟨R,o⟩:=A.out w (zp _ _);clear hI y P aw av;generalize yp fs c.head c.body [] B=aI at *;go_enter func166,ntmps166;go_upto_region 2 with fail
 have ai:Hid (μ w (w.alloc (.cells #[r,s] 270))):=(zp _ _).alloc (zf _) _;have ab:Hid (∀W,Below (w.alloc (.cells #[r,s] 270)).heap.size (w.alloc (.cells #[r,s] 270)) W->W.cell? ⟨w.heap.size,0,none⟩=some r/\W.cell? ⟨w.heap.size,1,none⟩=some s/\w.heap.size<W.heap.size):=λW i=>by
  have q:=(Rz.new w #[r,s] 270).below i;exact⟨by rw[q.rules.1];rfl,by rw[q.rules.1];rfl,q.lt⟩
 clear R o;obtain⟨R,o⟩:=A.out _ ai.out;generalize az:w.alloc (.cells #[r,s] 270)=wA at *;clear az;go_wp2;clear R o;go_loopw [10,11,12] (λag _ _ wr=>∃k:Nat,k<=c.body.length/\ag=ι k/\Hid (∀j (u:j<c.body.length),j<k->¬(c.body[j].neg=true/\(yU c.body[j].pred (yD B c.body[j].args) fs).isSome=true))/\Hid (μ wA wr)) (λag _ _ _=>c.body.length-(intOf ag).toNat);exact⟨0,by omega,rfl,λj u h2=>by omega,zp _ _⟩;obtain⟨k,hk,rfl,HN,F⟩:=hrel;have t:=Ry (R5 ai.out F.out);obtain⟨R,o⟩:=A.out _ t.out;obtain⟨b0,b1,aq⟩:=ab.out _ F.out;by_cases D:k<c.body.length
 .have ay:(k:Int)<(c.body.length:Int):=by omega
  obtain⟨g,rfl,hg,_,_,n,c2,E⟩:=af.out _ k D t.out;have G:Hid (∀W,μ wr W->Calls prog 195 #[.agg #[r,s],n] W λe d=>∃v,e=.returned v/\Hid (R7 w.heap.size d v (yD B c.body[k].args))/\Hid (μ wr d)/\d.cell? ⟨g,k*3+2,none⟩=some n/\d.cell? ⟨w.heap.size,0,none⟩=some r/\d.cell? ⟨w.heap.size,1,none⟩=some s/\d.cell? ⟨C,K+3,none⟩=some (.slice (some ⟨g,0,none⟩) c.body.length Q)):=λW i=>by
   have H:=R5 t.out i;refine(X.out W c.body[k] n (by simp[zm]) H (E.below i)).mono ?_;rintro e d ⟨v,L,q2,q3⟩;have m:=R5 i q3.out;obtain⟨b0,b1,_⟩:=ab.out d (R5 F.out m);exact⟨v,L,yk q2.out H.size,m,(zl m hg c2),b0,b1,(zl m o R)⟩
  clear E;go_upto_region 6 with fail
  go_cut [11] from 34 to 43 (λaB wx=>∃v,aB=v/\Hid (R7 w.heap.size wx v (yD B c.body[k].args))/\Hid (μ wr wx))
  .go_region_held3 (λd=>d.cell? ⟨g,k*3+2,none⟩=some n/\d.cell? ⟨w.heap.size,0,none⟩=some r/\d.cell? ⟨w.heap.size,1,none⟩=some s/\d.cell? ⟨C,K+3,none⟩=some (.slice (some ⟨g,0,none⟩) c.body.length Q)) (first|go_keep|(go_simp;done)) (first|(go_at_call 195;refine(G.out _ (by exact(by repeat'(first|with_reducible(first|apply zR|assumption|apply zN|apply zA|apply zD|apply zS)|go_size)))).mono ?_;rintro e w5 ⟨v5,rfl,Y,ac,z0,z1,z2,z3⟩))
   go_wp2;go_meet
   exact⟨_,rfl,Y,ac⟩
  obtain⟨am,V,M,O⟩:=hcut;obtain rfl:=V.symm;clear V c2 hg b0 b1 aq G R o;have h:=Ry (R5 t.out O.out);have an:=Ry (R5 F.out O.out);obtain⟨R,o⟩:=A.out _ h.out;obtain⟨g',e',hg,_,c1,_⟩:=af.out _ k D h.out;cases e';have U:Hid (Calls prog 45 #[(π mb),.string c.body[k].pred,am] wc λe d=>e=ε (ι (dK c.body[k].pred (yD B c.body[k].args) fs))/\Hid (μ wc d)/\g<d.heap.size/\d.cell? ⟨g,k*3,none⟩=some (.bool c.body[k].neg)/\d.cell? ⟨C,K+3,none⟩=some (.slice (some ⟨g,0,none⟩) c.body.length Q)/\C<d.heap.size):=by
   refine(Z.out wc k D am _ h.out M.out).mono ?_;rintro e d ⟨L,q3⟩;have m:=R5 h.out q3;obtain⟨g',e',y1,y2,_⟩:=af.out _ k D m;cases e';exact⟨L,q3,y1,y2,A.out _ m⟩
  have ak:Hid (¬(c.body[k].neg=true/\(yU c.body[k].pred (yD B c.body[k].args) fs).isSome=true)->∀j (u:j<c.body.length),j<k+1->¬(c.body[j].neg=true/\(yU c.body[j].pred (yD B c.body[j].args) fs).isSome=true)):=λq j u h2=>by
   by_cases a7:j=k;subst a7;exact q;exact HN.out j u (by omega)
  have a1:=Ry (J.out k D);have T:Hid ((yU c.body[k].pred (yD B c.body[k].args) fs).isSome=true↔0<=dK c.body[k].pred (yD B c.body[k].args) fs):=by
   unfold Hid dK;rcases yU c.body[k].pred (yD B c.body[k].args) fs with _|z;simp;simp
  generalize dK c.body[k].pred (yD B c.body[k].args) fs=fi at *;generalize (yU c.body[k].pred (yD B c.body[k].args) fs).isSome=fb at *;generalize c.body[k].pred=pr at *;generalize c.body[k].neg=ng at *;go_upto_region 8 with (first|(go_at_call 45;refine U.out.mono ?_;rintro e w6 ⟨rfl,ap,aK,z0,z3,aD⟩))
  have ah:=Ry (R5 h.out ap.out);have S:=Ry (R5 an.out ap.out);clear U c1 R hg o;cases ng
  .have ad:=Ry (ak.out (by simp));go_wp2;go_roundw;exact⟨k+1,by omega,by go_num,ad,S⟩;simp[intOf];omega
  by_cases al:0<=fi
  .have HR:=Ry (a1.out rfl (T.out.2 al));go_wp2;go_ret;exact⟨_,rfl,by rw[Hid,HR.out];exact xx.nil _ _,ah⟩
  have ad:=Ry (ak.out (λq=>al (T.out.1 q.2)));go_wp2;go_roundw;exact⟨k+1,by omega,by go_num,ad,S⟩;simp[intOf];omega
 have ay:¬(k:Int)<(c.body.length:Int):=by omega
 have aa:=Ry (I.out λj u=>HN.out j u (by omega));clear HN I J;obtain⟨n,c2,E⟩:=ax.out _ t.out;have G:Hid (∀W,μ wr W->Calls prog 195 #[.agg #[r,s],n] W λe d=>∃v,e=.returned v/\Hid (R7 w.heap.size d v (yD B c.head.args))/\Hid (μ wr d)/\d.cell? ⟨C,K+2,none⟩=some n/\d.cell? ⟨w.heap.size,0,none⟩=some r/\d.cell? ⟨w.heap.size,1,none⟩=some s):=λW i=>by
  have H:=R5 t.out i;refine(X.out W c.head n (by simp[zm]) H (E.below i)).mono ?_;rintro e d ⟨v,L,q2,q3⟩;have m:=R5 i q3.out;obtain⟨b0,b1,_⟩:=ab.out d (R5 F.out m);exact⟨v,L,yk q2.out H.size,m,(zl m o c2),b0,b1⟩
 clear E;go_upto_region 10 with fail
 go_cut [13] from 67 to 73 (λa4 wx=>∃v,a4=v/\Hid (R7 w.heap.size wx v (yD B c.head.args))/\Hid (μ wr wx))
 .go_region_held3 (λd=>d.cell? ⟨C,K+2,none⟩=some n/\d.cell? ⟨w.heap.size,0,none⟩=some r/\d.cell? ⟨w.heap.size,1,none⟩=some s) (first|go_keep|(go_simp;done)) (first|(go_at_call 195;refine(G.out _ (by exact(by repeat'(first|with_reducible(first|apply zR|assumption|apply zN|apply zA|apply zD|apply zS)|go_size)))).mono ?_;rintro e w5 ⟨v5,rfl,Y,ac,z0,z1,z2⟩))
  go_wp2;go_meet
  exact⟨_,rfl,Y,ac⟩
 obtain⟨aF,x,M,O⟩:=hcut;obtain rfl:=x.symm;clear x c2 b0 b1 aq G R o;have h:=Ry (R5 t.out O.out);obtain⟨au,ae,x⟩:=M.out.qy;subst x;have aC:=h.out.size;generalize (yD B c.head.args).length=rl at *;go_wp2_with (at_builtin;refine kA wc _ _ _ rfl (.tmp 74) (.tmp 76) 31 rfl w.heap.size 30 i0 _ 1 24 underlying31 hi aA a5 a8 rfl (by decide) _ 0 [] rfl (yW _ _ _ _) (zp _ _) _ _ rfl (by simp) rfl (by simp[Value.oneCell']) (by omega) (by omega) (by omega) ?_;intro v' w2 a2 N a0 a3 a6 aj;clear a0 a3)
 go_ret;have hS:zc [] wc w2:=⟨N.os,N.tape,N.output,aj,λj u _=>a6 j u (show some j≠none from Option.some_ne_none j)⟩;refine⟨_,rfl,⟨[.slice au rl ae],by rw[aa.out];rfl,by rw[aa.out];exact a2,λj h1 h2=>?_⟩,h.out.trans N⟩;obtain rfl:j=0:=by simp at h2;exact h2
 have q:=SA.of (yK M.out hS (λb _ hm=>by cases hm)) hz;simp only[aa.out,gH];exact q
end
section
open Go.Proofs.Tryz
variable {z:Nat->Prop}{o1 o2:Option Addr}{wo:Option y9}
section
variable {ops:Array Oper} {rest:List Oper} {o:Oper} {a:Act} {Q:Exit->Act->World->Prop}
def xx.saveT{lo:Nat}{w w':World}{v:Value}{c:List (κ)}{M:List Nat}{T:TypeId}(h:xx z lo w v c)(hs:zc M w w')(e:RL w T M)(j:30≠T)(l:9≠T):xx z lo w' v c:=by
 obtain⟨d,k,g,f⟩:=h;exact⟨d,k,yI g hs e j,λi a b=>(f i a b).saveT hs e l⟩
def Pw{lo C:Nat}{w:World}(l:o.guard=none)(s x:Operand)
  (S:o.op=.call {callee:=.builtin .append,args:=#[s,x],argTypes:=#[31,31]})
  (p g:List (κ)) (q L:Value) (P:a.eval s=q) (M:a.eval x=L) (h1:xx z lo w q p) (h2:xx z C w L g) (hl:p.length+g.length<=1000000000000) (r:lo<=w.heap.size)
  (h:∀A E,xx z lo E A (p++g)->zc q.ownBlock.toList w E->wpList prog ops Q rest (a.put o.dst A) E):
  wpList prog ops Q (o::rest) a w:=by
 obtain⟨N,T,H,F,v⟩:=info_parts Ru;obtain⟨i,t,f,K⟩:=h1;obtain⟨b,Z,X,R⟩:=h2;have m:∀u∈b,u.oneCell'=true:=by
  intro u hu;obtain⟨j,d,rfl⟩:=qE.1 hu;obtain⟨ao,ac,e⟩:=(R j (by omega) d).1.qy;rw[e];simp[Value.oneCell']
 obtain⟨_,⟨D,hn⟩|⟨O,n,W,D,U,hh,aa,ad,ab,J⟩⟩:=id X;have B:g=[]:=pA hn;refine wpList_append_own_none l s x 31 S lo 30 N 1 underlying31 T _ _ _ P f (by rw[M,D]) ?_;refine h _ _ ?_ (zc.refl _ _);rw[B,vR];exact⟨i,t,f,K⟩;have I:∀j u,b[j]?=some u->w.cell? (Addr.add ⟨O,0,none⟩ j)=some u:=λj u d=>by
  rw[Addr.add_lit,vn];unfold World.cell?;rw[hh];simp only;rw[←J,mp] at d;split at d;simpa using d;simp at d
 refine wpList_append_own _ l s x 31 S lo 30 N _ 1 24 underlying31 T H F v rfl (by decide) _ _ _ P f ⟨O,0,none⟩ g.length n b (by rw[M,D]) (by omega) I m (by unfold maxLen;omega) (by omega) r ?_;intro A Y y c _;have G:zc q.ownBlock.toList w Y:=⟨c.os,c.tape,c.output,c.size,λk V hm=>c.block k V λe=>hm (by rw[←e];simp)⟩;refine h _ _ ⟨i++b,by simp[t,Z],by rw[yC];exact y,λj q1 q2=>?_⟩ G;by_cases d:j<p.length;rw[uD (by omega),uD d];exact(K j d (by omega)).saveT G (RL.own f) (by decide);rw[l5 (by omega),l5 (by omega)];simp only[t];simp only[yC] at q1 q2;exact(R _ (by omega) (by omega)).saveT G (RL.own f) (by decide)
end
def fK(fs:List zC)(h:zk)(body rest:List zk)(l:zk)(B:y9)(f:zC):List (κ):=if f.1=l.pred then(match xy B l.args f.2.1 with|none=>[]|some b=>yp fs h body rest b) else []
def MC{fs:List zC}{h:zk}{body rest:List zk}{l:zk}{B:y9}(b:l.neg=false):yp fs h body (l::rest) B=fs.flatMap (fK fs h body rest l B):=by
 unfold yp;rw[za (by simp[b])];rfl
def Qh{α β:Type}(f:α->List β)(l:List α){i:Nat}(b:i<l.length):(l.take (i+1)).flatMap f=(l.take i).flatMap f++f l[i]:=by
 rw[yP b,List.flatMap_append];simp
def Jq{α β:Type}(f:α->List β)(l:List α)(i:Nat):((l.take i).flatMap f).length<=(l.flatMap f).length:=by
 conv=>rhs;rw[←jx i l]
 rw[List.flatMap_append,yC];omega
def SZ(d w:World)(m:Nat)(wo:Option y9)(s:Value):Prop:=∃(c f h:Nat) (o1:Option Addr) (g e:Nat) (o2:Option Addr),s=(π c)/\Hid (∀b,wo=some b->R7 0 w (.slice o1 f h) (x6 b)/\R7 0 w (.slice o2 g e) (uc b)/\b.length<=m)/\Hid (Rz w c #[.slice o1 f h,.slice o2 g e] 270)/\Hid (μ d w)
def SZ.one{i w5:World}{m d g f c:Nat}(k:μ i w5)(h:∀b,wo=some b->R7 0 w5 (.slice o1 d g) (x6 b)/\R7 0 w5 (.slice o2 f c) (uc b)/\b.length<=m):SZ i (w5.alloc (.cells #[.slice o1 d g,.slice o2 f c] 270)) m wo (.pointer (some ⟨w5.heap.size,0,none⟩)):=by
 have j:μ w5 (w5.alloc (.cells #[.slice o1 d g,.slice o2 f c] 270)):=(zp _ _).alloc (zf _) _;exact⟨_,d,g,o1,f,c,o2,rfl,λb e=>⟨(h b e).1.below j,(h b e).2.1.below j,(h b e).2.2⟩,Rz.new w5 _ _,R5 k j⟩
def SZ.two{k w5:World}{m g j i d b:Nat}{w t:Value}(f:k.heap.size<=b)(u:μ k w5)(r:Rz w5 b #[w,t] 270)(h:∀c,wo=some c->R7 0 w5 (.slice o1 g j) (x6 c)/\R7 0 w5 (.slice o2 i d) (uc c)/\c.length<=m):SZ k ((w5.setCell ⟨b,0,none⟩ (.slice o1 g j)).setCell ⟨b,1,none⟩ (.slice o2 i d)) m wo ((π b)):=by
 have p:=r.set 0 (.slice o1 g j);have s:=p.set 1 (.slice o2 i d);have n:∀v l,R7 0 w5 v l->R7 0 ((w5.setCell ⟨b,0,none⟩ (.slice o1 g j)).setCell ⟨b,1,none⟩ (.slice o2 i d)) v l:=λv l q=>yI (yI q (zc.set _ _ _ _) (RL.box r) (by decide)) (zc.set _ _ _ _) (RL.box p) (by decide);exact⟨b,g,j,o1,i,d,o2,rfl,λc e=>⟨n _ _ (h c e).1,n _ _ (h c e).2.1,(h c e).2.2⟩,show Rz _ _ _ _ by simpa using s,(u.setCell f _).setCell f _⟩
def Kv(w:World)(u N A x:Nat)(M j m:Value)(c:zd)(fs:List zC)(B:y9)(l:zk)(rest:List zk)(k:Nat)(y:lr z w u N A x M j m c fs B)(P:c.body.length<=30)(C:k<c.body.length)(s:c.body[k]=l)(V:B.length<=3*k)(L:qn B)(E:l.neg=true)(i:(yp fs c.head c.body (l::rest) B).length<=1000000000000)(d:Hid (∀W r n (t:y9),t.length<=3*(k+1)->qn t->(yp fs c.head c.body rest t).length<=1000000000000->lr z W u N A x M r n c fs t->Calls prog 166 #[(π u),.pointer (some ⟨A,x,none⟩),ι ((k:Int)+1),.agg #[r,n]] W λe q=>∃v,e=.returned v/\Hid (xx z W.heap.size q v (yp fs c.head c.body rest t))/\Hid (μ W q))):
  Calls prog 166 #[(π u),.pointer (some ⟨A,x,none⟩),ι k,.agg #[j,m]] w λe q=>∃v,e=.returned v/\Hid (xx z w.heap.size q v (yp fs c.head c.body (l::rest) B))/\Hid (μ w q):=by
 have f:Hid (yp fs c.head c.body (l::rest) B=yp fs c.head c.body rest B):=by
  unfold Hid;rw[yp,zb E]
 rw[f.out] at i;have h:Hid (μ w (w.alloc (.cells #[j,m] 270))):=(zp _ _).alloc (zf _) _;have D:=Ry (y.below h.out);obtain⟨ao,X,c3,K⟩:=D.out.cl.body;obtain⟨g,rfl,hg,T,_⟩:=K k C;rw[s,E] at T;have ab:=D.out.cl.lt;have b:=Rz.new w #[j,m] 270;have b0:=b.rules.1 0;have b1:=b.rules.1 1;have R:=b.lt;have J:=Ry (d.out _ j m B (by omega) L i D.out);obtain⟨_,_,d3,_⟩:=y.cl.body;have p:=y.cl.lt;have O:((k:Int) == (c.body.length:Int))=false:=by simp;omega
 have aa:(k:Int)<(c.body.length:Int):=by omega
 generalize yp fs c.head c.body (l::rest) B=S at *;clear y K b L i d s E;go_enter func166,ntmps166;go_upto_region 2 with fail
 generalize H:w.alloc (.cells #[j,m] 270)=wA at *;clear H d3 p;go_wp2_with (go_at_call 166;refine J.out.mono ?_;rintro e w1 ⟨v1,rfl,I,G⟩)
 go_ret;obtain⟨F,Z,Y,U⟩:=I.out;exact⟨_,rfl,by rw[Hid,f.out];exact⟨F,Z,yk Y h.out.size,U⟩,R5 h.out G.out⟩
def Ms(w:World)(mb rd gb go:Nat)(fv D E:Value)(c:zd)(fs:List zC)(B:y9)(l:zk)(rest:List zk)(k:Nat)(V:lr z w mb rd gb go fv D E c fs B)(br:c.body.length<=30)(ac:l.args.length<=3/\∀a∈l.args,0<a.size)(bs:fs.length<=10000000)(au:∀f∈fs,f.1=l.pred->f.2.1.length=l.args.length)(aq:∀f∈fs,∀x∈f.2.1,x≠ByteArray.empty)(aO:k<c.body.length)(aN:c.body[k]=l)(bp:B.length<=3*k)(hF:qn B)(hn:l.neg=false)(an:(yp fs c.head c.body (l::rest) B).length<=1000000000000)(a6:Hid (∀W a2 a0 (d:y9),d.length<=3*(k+1)->qn d->(yp fs c.head c.body rest d).length<=1000000000000->lr z W mb rd gb go fv a2 a0 c fs d->Calls prog 166 #[(π mb),.pointer (some ⟨gb,go,none⟩),ι ((k:Int)+1),.agg #[a2,a0]] W λe j=>∃v,e=.returned v/\Hid (xx z W.heap.size j v (yp fs c.head c.body rest d))/\Hid (μ W j))):
  Calls prog 166 #[(π mb),.pointer (some ⟨gb,go,none⟩),ι k,.agg #[D,E]] w λe j=>∃v,e=.returned v/\Hid (xx z w.heap.size j v (yp fs c.head c.body (l::rest) B))/\Hid (μ w j):=by
 obtain⟨ao,av,rfl,_⟩:=id V.facts;obtain⟨aE,N,aF,_⟩:=V.cl.body;have A:=MC (fs:=fs) (h:=c.head) (body:=c.body) (rest:=rest) (B:=B) hn;rw[A] at an;have aG:=Ry A;have al:=Ry λW (m:μ w W)=>V.below m;have R:Hid (∀W,μ w W->W.cell? ⟨gb,go+3,none⟩=some (.slice aE c.body.length N)/\gb<W.heap.size):=λW m=>⟨(m.cell (p:=⟨gb,go+3,none⟩) V.cl.lt).trans aF,(V.below m).cl.lt⟩;have aL:Hid (∀W,μ w W->∃g,aE=some ⟨g,0,none⟩/\g<W.heap.size/\W.cell? ⟨g,k*3,none⟩=some (.bool false)/\W.cell? ⟨g,k*3+1,none⟩=some (.string l.pred)/\∃F,W.cell? ⟨g,k*3+2,none⟩=some F/\R7 0 W F l.args):=λW m=>by
  obtain⟨aY,aI,G,X⟩:=(V.below m).cl.body;rw[(R.out W m).1] at G;cases G;have:=X k aO;rw[aN,hn] at this;exact this
 have aM:Hid (∀W,μ w W->W.cell? ⟨mb,0,none⟩=some (.slice ao fs.length av)/\mb<W.heap.size):=λW m=>⟨by rw[(V.below m).model.rules.1];rfl,(V.below m).model.lt⟩;have bg:Hid (∀W i (U:i<fs.length),μ w W->∃J u,ao=some ⟨J,0,none⟩/\J<W.heap.size/\W.cell? ⟨J,i*3,none⟩=some (.string fs[i].1)/\W.cell? ⟨J,i*3+1,none⟩=some u/\∃lo,R7 lo W u fs[i].2.1):=λW i U m=>by
  obtain⟨aY,aI,e,q⟩:=(V.below m).facts;cases e;obtain⟨J,u,lo,r1,r2,r3,r4,_,r6⟩:=q i U;exact⟨J,u,r1,r2,r3,r4,lo,r6⟩
 have P:Hid (∀W i (U:i<fs.length) F u O,fs[i].1=l.pred->μ w W->R7 0 W F l.args->R7 O W u fs[i].2.1->Calls prog 196 #[.agg #[D,E],F,u] W λe j=>∃(I c1:Nat) (o1:Option Addr) (H S:Nat) (o2:Option Addr),e=ε (.tuple #[.agg #[.slice o1 I c1,.slice o2 H S],.bool (xy B l.args fs[i].2.1).isSome])/\Hid (∀d,xy B l.args fs[i].2.1=some d->R7 0 j (.slice o1 I c1) (x6 d)/\R7 0 j (.slice o2 H S) (uc d)/\d.length<=3*(k+1))/\Hid (μ W j)):=λW i U F u O hp m ha hr=>by
  refine(Pe W D E F u B l.args fs[i].2.1 (al.out W m).fst (al.out W m).snd ha hr (by omega) (by omega) (au _ (zt U) hp) ac.2 hF (aq _ (zt U))).mono ?_;rintro e j ⟨I,c1,o1,H,S,o2,G,X,q3⟩;refine⟨I,c1,o1,H,S,o2,G,λd bf=>?_,q3⟩;obtain⟨r1,r2,r3⟩:=X.out d bf;exact⟨yk r1 (zv _),yk r2 (zv _),by have:=ac.1;omega⟩
 have aj:Hid (∀i (U:i<fs.length) d,fs[i].1=l.pred->xy B l.args fs[i].2.1=some d->qn d):=λi U d hp hq=>(pQ l.args fs[i].2.1 B d (au _ (zt U) hp).symm (aq _ (zt U)) (λa ha e=>by have:=ac.2 a ha;rw[e] at this;exact z9 this (by decide)) hF hq).1;have aS:=Ry an;obtain⟨c3,r⟩:=R.out w (zp _ _);have bn:((k:Int) == (c.body.length:Int))=false:=by simp;omega
 have bo:(k:Int)<(c.body.length:Int):=by omega
 clear V ac au aq aF A an hF hn aN;generalize yp fs c.head c.body (l::rest) B=bq at *;go_enter func166,ntmps166;go_upto_region 2 with fail
 have Y:Hid (μ w (w.alloc (.cells #[D,E] 270))):=(zp _ _).alloc (zf _) _;have bc:Hid (∀W,Below (w.alloc (.cells #[D,E] 270)).heap.size (w.alloc (.cells #[D,E] 270)) W->W.cell? ⟨w.heap.size,0,none⟩=some D/\W.cell? ⟨w.heap.size,1,none⟩=some E/\w.heap.size<W.heap.size):=λW m=>by
  have q:=(Rz.new w #[D,E] 270).below m;exact⟨by rw[q.rules.1];rfl,by rw[q.rules.1];rfl,q.lt⟩
 clear c3 r;obtain⟨c3,r⟩:=R.out _ Y.out;obtain⟨g,rfl,hg,c0,_⟩:=aL.out _ Y.out;generalize aR:w.alloc (.cells #[D,E] 270)=wA at *;clear aR;go_wp2;clear c3 r c0 hg;go_loopw [9,14,15,16,17] (λv9 aw _ _ _ wr=>∃i:Nat,i<=fs.length/\aw=ι i/\Hid (xx z wA.heap.size wr v9 ((fs.take i).flatMap (fK fs c.head c.body rest l B)))/\Hid (μ wA wr)) (λ_ aw _ _ _ _=>fs.length-(intOf aw).toNat);exact⟨0,zv _,rfl,xx.nil _ _,zp _ _⟩;obtain⟨i,U,rfl,aa,Z⟩:=hrel;have s:=Ry (R5 Y.out Z.out);obtain⟨m0,ad⟩:=aM.out _ s.out;by_cases ae:i<fs.length
 .have aZ:(i:Int)<(fs.length:Int):=by omega
  have T:Hid ((fs.take (i+1)).flatMap (fK fs c.head c.body rest l B)=(fs.take i).flatMap (fK fs c.head c.body rest l B)++fK fs c.head c.body rest l B fs[i]):=Qh _ _ ae;have aX:Hid (((fs.take (i+1)).flatMap (fK fs c.head c.body rest l B)).length<=1000000000000):=zZ (Jq _ _ _) aS.out;obtain⟨J,u,rfl,ax,f0,f1,O,ap⟩:=bg.out _ i ae s.out;obtain⟨g',e',hg,_,c1,F,S,am⟩:=aL.out _ s.out;cases e';obtain⟨c3,r⟩:=R.out _ s.out;by_cases he:fs[i].1=l.pred
  .have aQ:=jF he;have C:Hid (fK fs c.head c.body rest l B fs[i]=(match xy B l.args fs[i].2.1 with|none=>[]|some d=>yp fs c.head c.body rest d)):=zb he;have a7:=Ry λW F u O G X q3=>P.out W i ae F u O he G X q3;have bh:=Ry λd q=>aj.out i ae d he q;generalize fK fs c.head c.body rest l B fs[i]=sn at *;clear he P aj;generalize fs[i].1=x at *;generalize fs[i].2.1=rw at *;go_upto_region 17 with fail
   go_quiet (fail)
   have aD:=Ry (aa.out.below (lX wr nq));have ak:=Ry (zI Z.out nq);have n:=Ry (zI s.out nq);have ag:=ap.below (lX wr nq);have af:=am.below (lX wr nq);have aK:=((lX wr nq).cell (p:=⟨J,i*3+1,none⟩) ax).trans f1;have a4:=((lX wr nq).cell (p:=⟨g,k*3+2,none⟩) hg).trans S;have ah:=yE ax (lX wr nq).size;have az:=yE hg (lX wr nq).size;clear m0 ad ax f0 f1 ap hg c1 S am c3 r aa Z s;generalize wr.drewN nq=wq at *;obtain⟨m0,ad⟩:=aM.out _ n.out;obtain⟨c3,r⟩:=R.out _ n.out;obtain⟨b0,b1,ar⟩:=bc.out _ ak.out;have a8:Hid (∀W,μ wq W->Calls prog 196 #[.agg #[D,E],F,u] W λe j=>∃(I c1:Nat) (o1:Option Addr) (H S:Nat) (o2:Option Addr),e=ε (.tuple #[.agg #[.slice o1 I c1,.slice o2 H S],.bool (xy B l.args rw).isSome])/\Hid (∀d,xy B l.args rw=some d->R7 0 j (.slice o1 I c1) (x6 d)/\R7 0 j (.slice o2 H S) (uc d)/\d.length<=3*(k+1))/\Hid (μ wq j)/\Hid (μ W j)/\j.cell? ⟨g,k*3+2,none⟩=some F/\j.cell? ⟨w.heap.size,0,none⟩=some D/\j.cell? ⟨w.heap.size,1,none⟩=some E/\j.cell? ⟨mb,0,none⟩=some (.slice (some ⟨J,0,none⟩) fs.length av)/\j.cell? ⟨J,i*3+1,none⟩=some u/\j.cell? ⟨gb,go+3,none⟩=some (.slice (some ⟨g,0,none⟩) c.body.length N)):=λW m=>by
    refine(a7.out W _ _ _ (R5 n.out m) (af.below m) (ag.below m)).mono ?_;rintro e j ⟨I,m1,o1,H,m2,o2,G,X,q3⟩;have t:=R5 m q3.out;exact⟨I,m1,o1,H,m2,o2,G,X,t,q3,(zl t az a4),(zl t ar b0),(zl t ar b1),(zl t ad m0),(zl t ah aK),(zl t r c3)⟩
   clear af ag a7;generalize xy B l.args rw=wo at *;go_upto_region 18 with fail
   go_cut [15,16] from 118 to 138 (λaU aW wx=>aW=.bool wo.isSome/\SZ wq wx (3*(k+1)) wo aU)
   .go_region_held3 (λj=>j.cell? ⟨g,k*3+2,none⟩=some F/\j.cell? ⟨w.heap.size,0,none⟩=some D/\j.cell? ⟨w.heap.size,1,none⟩=some E/\j.cell? ⟨mb,0,none⟩=some (.slice (some ⟨J,0,none⟩) fs.length av)/\j.cell? ⟨J,i*3+1,none⟩=some u/\j.cell? ⟨gb,go+3,none⟩=some (.slice (some ⟨g,0,none⟩) c.body.length N)) (first|go_keep|(go_simp;done)) (first|(go_at_call 196;refine(a8.out _ (by exact(by repeat'(first|with_reducible(first|apply zR|assumption|apply zN|apply zA|apply zD|apply zS)|go_size)))).mono ?_;rintro e w5 ⟨I,m1,o1,H,m2,o2,rfl,a1,aH,aT,z0,z1,z2,z3,z4,z5⟩;(try (with_reducible refine Rz.carry (Rz.drew (Rz.new wq #[ν,ν] 270)) aT.out ?_;intro aJ;obtain⟨bm,bi,bk⟩:=aJ.boxed))))
    all_goals
     go_wp2_with fail
     go_meet
     first|exact⟨rfl,SZ.one aH.out a1.out⟩|exact⟨rfl,SZ.two (zf _) aH.out aJ a1.out⟩
   obtain⟨rfl,xq,I,m1,o1,H,m2,o2,rfl,HQ,ay,ab⟩:=hcut;have aC:=Ry (aD.out.below ab.out);have ai:=Ry (R5 ak.out ab.out);have aA:=Ry (R5 n.out ab.out);clear m0 ad c3 r b0 b1 ar a8 aK a4 ah az aD ak n ab;rcases wo with _|d
   .have HT:Hid (sn=[]):=C.out;go_wp2;go_roundw;exact⟨i+1,by omega,by go_num,by rw[T.out,HT.out,vR];exact aC.out,ai⟩;simp[intOf];omega
   have HT:Hid (sn=yp fs c.head c.body rest d):=C.out;simp only[kc];obtain⟨s1,s2,s3⟩:=HQ.out d rfl;have K:=al.out wc aA.out;have M:=aX.out;rw[T.out,HT.out,yC] at M;have a3:=Ry (a6.out wc (.slice o1 I m1) (.slice o2 H m2) d s3 (bh.out d rfl) (by omega) ⟨K.model,K.facts,K.cl,s1,s2,K.hz⟩);have q0:=ay.out.rules.1 0;have G:=ay.out.rules.1 1;have aV:=ay.out.lt;have be:=Ry M;clear s1 s2 HQ K M;generalize yp fs c.head c.body rest d=fr at *;go_upto_region 21 with (first|(go_at_call 166;refine a3.out.mono ?_;rintro e w6 ⟨v6,rfl,bd,aB⟩))
   have a9:=Ry (aC.out.below aB.out);have L:=Ry (R5 ai.out aB.out);clear q0 G aV a3;go_wp2_with (at_builtin;refine Pw rfl (.tmp 146) (.tmp 147) rfl _ _ _ _ rfl rfl a9.out bd.out be.out L.out.size ?_;intro v8 w8 aP ba)
   go_roundw;obtain⟨_,_,a5,_⟩:=a9.out;exact⟨i+1,by omega,by go_num,by rw[T.out,HT.out];exact aP,L.out.trans (ba.below (λb m=>yX a5 (xb m)) L.out.size)⟩;simp[intOf];omega
  have aQ:=qb he;have C:Hid ((fs.take (i+1)).flatMap (fK fs c.head c.body rest l B)=(fs.take i).flatMap (fK fs c.head c.body rest l B)):=by
   rw[Hid,T.out,fK,za he,vR]
  clear T he f1 ap am S;generalize fs[i].1=x at *;generalize l.pred=y at *;go_wp2;go_quiet (fail)
  go_wp2;go_roundw;exact⟨i+1,by omega,by go_num,by rw[C.out];exact aa.out.below (lX _ _),zI Z.out _⟩;simp[intOf];omega
 have aZ:¬(i:Int)<(fs.length:Int):=by omega
 obtain rfl:i=fs.length:=by omega
 go_wp2;go_ret;obtain⟨bb,G,X,q3⟩:=aa.out;rw[uR] at G X q3;exact⟨_,rfl,by rw[Hid,aG.out];exact⟨bb,G,yk X Y.out.size,q3⟩,s⟩
def CE(i G n j:Nat)(F:Value)(c:zd)(fs:List zC)(r:c.body.length<=30)(b:∀l∈zm c,l.args.length<=3/\∀a∈l.args,0<a.size)(y:fs.length<=10000000)(K:∀f∈fs,f.2.1.length<=1000000)(I:∀f∈fs,∀l∈zm c,f.1=l.pred->f.2.1.length=l.args.length)(H:∀f∈fs,∀x∈f.2.1,x≠ByteArray.empty):∀(rest:List zk) (k:Nat) (w:World) (q D:Value) (B:y9),k<=c.body.length->c.body.drop k=rest->B.length<=3*k->qn B->(yp fs c.head c.body rest B).length<=1000000000000->lr z w i G n j F q D c fs B →
  Calls prog 166 #[(π i),.pointer (some ⟨n,j,none⟩),ι k,.agg #[q,D]] w λe J=>∃v,e=.returned v/\Hid (xx z w.heap.size J v (yp fs c.head c.body rest B))/\Hid (μ w J)
 |[],k,w,q,D,B,S,M,E,N,s,L=>by
  have O:k=c.body.length:=by
   have:=congrArg List.length M;simp at this;omega
  subst O;exact Jw w i G n j F q D c fs B L (by omega) (by omega) (λl R=>⟨by have:=(b l R).1;omega,(b l R).2⟩) y K
 |l::rest,k,w,q,D,B,S,M,E,N,s,L=>by
  have d:k<c.body.length:=by
   have:=congrArg List.length M;simp at this;omega
  have A:=M;rw[xh d] at A;have C:c.body[k]=l:=(List.cons.inj A).1;have t:c.body.drop (k+1)=rest:=(List.cons.inj A).2;have m:l∈zm c:=by simp[zm,←C]
  have p:Hid (∀W h g (u:y9),u.length<=3*(k+1)->qn u->(yp fs c.head c.body rest u).length<=1000000000000->lr z W i G n j F h g c fs u->Calls prog 166 #[(π i),.pointer (some ⟨n,j,none⟩),ι ((k:Int)+1),.agg #[h,g]] W λe J=>∃v,e=.returned v/\Hid (xx z W.heap.size J v (yp fs c.head c.body rest u))/\Hid (μ W J)):=λW h g u U T X V=>CE i G n j F c fs r b y K I H rest (k+1) W h g u d t U T X V;cases P:l.neg with
  |true=>exact Kv w i G n j F q D c fs B l rest k L r d C E N P s p
  |false=>exact Ms w i G n j F q D c fs B l rest k L r (b l m) y (λf Y e=>I f Y l m e) H d C E N P s p
end
section
open Go.Proofs.Tryz
variable {z:Nat->Prop}{rvs:List Value}{lo:Nat}{w:World}
def QL:(prog.info? 56).map (λi=>(i.zero,i.size,i.bytes))=some (some (.agg #[.string ByteArray.empty,ν,ι 0]),3,48):=by kernel_rfl
def SW(f:zC)(a:Value):List Value:=[.string f.1,a,ι (f.2.2:Nat)]
def qI(fs:List zC)(rvs:List Value):List Value:=(List.zipWith SW fs rvs).flatten
def G2{fs b:List zC}{a:List Value}(h:rvs.length=fs.length):qI (fs++b) (rvs++a)=qI fs rvs++qI b a:=by
 unfold qI;rw[i6 h.symm];simp
def I5{fs:List zC}(h:rvs.length=fs.length):(qI fs rvs).length=fs.length*3:=by
 induction fs generalizing rvs with
 |nil=>simp[qI]
 |cons f fs a=>
  rcases rvs with _|⟨r,rvs⟩;simp at h;have:=a (rvs:=rvs) (by simpa using h);unfold qI at this ⊢;simp only[mt,mR,yC,xr];rw[this];simp[SW];omega
def p5:∀(fs:List zC) (a:List Value) (i c:Nat) (h:i<fs.length) (b:i<a.length),c<3->(qI fs a)[i*3+c]?=(SW fs[i] a[i])[c]?
 |f::fs,g::a,0,c,_,_,d=>by
  have e:qI (f::fs) (g::a)=SW f g++qI fs a:=by simp[qI]
  rw[e,rm (by simp[SW];omega)];simp
 |f::fs,g::a,i+1,c,h,b,d=>by
  have e:qI (f::fs) (g::a)=SW f g++qI fs a:=by simp[qI]
  have l:(SW f g).length=3:=by simp[SW]
  rw[e,d9 (by rw[l];omega),l,show(i+1)*3+c-3=i*3+c by omega];exact p5 fs a i c (by simpa using h) (by simpa using b) d
def yR(z:Nat->Prop)(lo:Nat)(w:World)(v:Value)(fs:List zC):Prop:=∃rvs:List Value,rvs.length=fs.length/\w.ownsRow lo 56 3 v fs.length (qI fs rvs)/\∀i (h:i<fs.length) (a:i<rvs.length),SA z w rvs[i] fs[i].2.1
def yR.nil(lo:Nat)(w:World):yR z lo w (ν) []:=⟨[],rfl,yW _ _ _ _,λi h=>by cases h⟩
def yR.below{lo:Nat}{w w':World}{v:Value}{fs:List zC}(h:yR z lo w v fs)(c:μ w w'):yR z lo w' v fs:=by
 obtain⟨rvs,e,d,f⟩:=h;exact⟨rvs,e,zB d c,λi a b=>(f i a b).below c⟩
def yR.low{a:Nat}{v:Value}{fs:List zC}(h:yR z lo w v fs)(d:a<=lo):yR z a w v fs:=by
 obtain⟨rvs,c,e,b⟩:=h;exact⟨rvs,c,yk e d,b⟩
def yR.saveT{lo:Nat}{w w':World}{v:Value}{fs:List zC}{M:List Nat}{T:TypeId}(h:yR z lo w v fs)(hs:zc M w w')(c:RL w T M)(f:56≠T)(j:9≠T):yR z lo w' v fs:=by
 obtain⟨rvs,g,e,d⟩:=h;exact⟨rvs,g,yI e hs c f,λi a b=>(d i a b).saveT hs c j⟩
def yR.facts{v:Value}{fs:List zC}(h:yR z lo w v fs):mZ w v fs:=by
 obtain⟨rvs,n,f,j⟩:=h;by_cases l:0<fs.length;obtain⟨g,b,d,_,k,e⟩:=yw f l;refine⟨_,b,d,λi c=>?_⟩;have a:i<rvs.length:=by omega
 refine⟨g,rvs[i],0,rfl,k,e (i*3) _ ?_,e (i*3+1) _ ?_,e (i*3+2) _ ?_,(j i c a).1⟩;rw[show i*3=i*3+0 from rfl,p5 _ _ _ _ c a (by omega)];rfl;rw[p5 _ _ _ _ c a (by omega)];rfl;rw[p5 _ _ _ _ c a (by omega)];rfl;obtain⟨m,b,d⟩:=zq f;exact⟨m,b,d,λi c=>z9 c (by omega)⟩
section
variable {ops:Array Oper} {rest:List Oper} {o:Oper} {a:Act} {Q:Exit->Act->World->Prop}
def Bg{D:Nat}(n:o.guard=none)(s x:Operand)
  (U:o.op=.call {callee:=.builtin .append,args:=#[s,x],argTypes:=#[52,52]})
  (l g:List zC) (t M:Value) (S:a.eval s=t) (O:a.eval x=M) (h1:yR z lo w t l) (h2:yR z D w M g) (hl:l.length+g.length<=1000000000000) (v:lo<=w.heap.size)
  (h:∀B F,yR z lo F B (l++g)->zc t.ownBlock.toList w F->wpList prog ops Q rest (a.put o.dst B) F):
  wpList prog ops Q (o::rest) a w:=by
 obtain⟨R,V,I,G,y⟩:=info_parts QL;obtain⟨rvs,r,m,L⟩:=h1;obtain⟨b,N,Z,T⟩:=h2;have p:∀u∈qI g b,u.oneCell'=true:=by
  intro u i;obtain⟨f,hf,i⟩:=List.mem_flatten.1 i;obtain⟨j,d,rfl⟩:=qE.1 hf;rw[List.getElem_zipWith] at i;simp only[List.length_zipWith] at d;obtain⟨ao,ac,e⟩:=(T j (by omega) (by omega)).1.qy;unfold SW at i;rw[e] at i;simp only[zy,lY,or_false] at i;rcases i with rfl|rfl|rfl<;>simp[Value.oneCell']
 obtain⟨_,⟨E,hn⟩|⟨P,q,Y,E,W,hh,aa,ad,ab,K⟩⟩:=id Z;have C:g=[]:=pA hn;refine wpList_append_own_none n s x 52 U lo 56 R 3 underlying52 V _ _ _ S m (by rw[O,E]) ?_;refine h _ _ ?_ (zc.refl _ _);rw[C,vR];exact⟨rvs,r,m,L⟩;have J:∀j u,(qI g b)[j]?=some u->w.cell? (Addr.add ⟨P,0,none⟩ j)=some u:=λj u d=>by
  rw[Addr.add_lit,vn];unfold World.cell?;rw[hh];simp only;rw[←K,mp] at d;split at d;simpa using d;simp at d
 refine wpList_append_own _ n s x 52 U lo 56 R _ 3 48 underlying52 V I G y rfl (by decide) _ _ _ S m ⟨P,0,none⟩ g.length q (qI g b) (by rw[O,E]) (I5 N) J p (by unfold maxLen;omega) (by omega) v ?_;intro B w2 A c _;have H:zc t.ownBlock.toList w w2:=⟨c.os,c.tape,c.output,c.size,λk X hm=>c.block k X λe=>hm (by rw[←e];simp)⟩;refine h _ _ ⟨rvs++b,by simp[r,N],by rw[yC,G2 r];exact A,λj q1 q2=>?_⟩ H;by_cases d:j<l.length;simp only[uD d,uD (show j<rvs.length by omega)];exact(L j d (by omega)).saveT H (RL.own m) (by decide);simp only[yC] at q1 q2;simp only[l5 (show l.length<=j by omega),l5 (show rvs.length<=j by omega),r];exact(T _ (by omega) (by omega)).saveT H (RL.own m) (by decide)
def yR.one{b:Nat}{f:zC}{c:Value}(g:Rz w b (SW f c).toArray 56)(e:SA z w c f.2.1):yR z 0 w (.slice (some ⟨b,0,none⟩) 1 1) [f]:=by
 refine⟨[c],rfl,⟨by simp[qI,SW],ze ⟨b,1,(SW f c).toArray,rfl,zv _,g,zf _,by unfold maxLen;omega,by simp[SW],by simp[qI,SW]⟩⟩,λi d h=>?_⟩;obtain rfl:i=0:=by simp at d;exact d
 exact e
end
def EF(w:World)(L l:Nat)(fv lv y:Value)(fs c:List zC)(b:ByteArray)(row:κ)(P:Rz w L #[fv,ι l] 54)(hf:mZ w fv fs)(R:yR z lo w lv c)(I:SA z w y row)(ag:fs.length<=10000000)(ak:c.length<1000000000000)(aq:row.length<=1000000)(N:∀f∈fs,f.2.1.length<=1000000)(E:∀f∈c,f.2.1.length<=1000000)(af:lo<=w.heap.size):
  Calls prog 123 #[(π L),lv,.string b,y] w λe w'=>∃v,e=.returned v/\Hid (yR z lo w' v (ug fs c (b,row,l)))/\Hid (zc lv.ownBlock.toList w w'):=by
 obtain⟨J,s,rfl⟩:=I.1.qy;have G:=Ry (CV w L l fv fs b _ row P hf I.1 ag (by omega) N);have ae:Hid (∀W,μ w W->W.cell? ⟨L,1,none⟩=some (ι l)/\L<W.heap.size):=λW m=>⟨by rw[(P.below m).rules.1];rfl,(P.below m).lt⟩;have ab:=Ry λW lo va (a:κ) (m:μ w W) (ha:R7 lo W va a) (hq:a.length<=1000000)=>AV W va _ a row ha (I.1.below m) hq (by omega);have A:=Ry λW (m:μ w W)=>R.below m;have aa:=Ry λW (m:μ w W)=>I.below m;have T:=Ry E;obtain⟨ao,ar,rfl,_⟩:=R.facts;have HC:Hid (∀W i (h:i<c.length),μ w W->∃g y lo,ao=some ⟨g,0,none⟩/\g<W.heap.size/\W.cell? ⟨g,i*3,none⟩=some (.string c[i].1)/\W.cell? ⟨g,i*3+1,none⟩=some y/\R7 lo W y c[i].2.1):=λW i h m=>by
  obtain⟨am,aj,e,q⟩:=(R.below m).facts;cases e;obtain⟨g,y,lo,r1,r2,r3,r4,_,r6⟩:=q i h;exact⟨g,y,lo,r1,r2,r3,r4,r6⟩
 have t:Hid ((yU b row fs).isSome=true↔0<=dK b row fs):=by
  unfold Hid dK;rcases yU b row fs with _|z;simp;simp
 have S:Hid ((yU b row fs).isSome=true->ug fs c (b,row,l)=c):=λq=>zb (zh q);have Y:Hid ((yU b row c).isSome=true->ug fs c (b,row,l)=c):=λq=>zb (ze q);have ai:Hid (¬(yU b row fs).isSome=true->¬(yU b row c).isSome=true->ug fs c (b,row,l)=c++[(b,row,l)]):=λq1 q2=>za (by rintro(z|z);exact q1 z;exact q2 z);clear P hf R I N E;generalize ug fs c (b,row,l)=ap at *;generalize (yU b row fs).isSome=fb at *;generalize dK b row fs=fi at *;by_cases F:0<=fi
 .have M:=Ry (S.out (t.out.2 F));go_enter func123,ntmps123;go_wp2_with (go_at_call 45;refine G.out.mono ?_;rintro e w1 ⟨rfl,p⟩)
  go_ret;exact⟨_,rfl,by rw[Hid,M.out];exact A.out _ p,zc.of p⟩
 have Z:Hid (¬fb=true):=λq=>F (t.out.1 q);have H0:Hid (yU b row c=(yU b row (c.drop 0)).map (·+0)):=show yU b row c=_ by simp
 generalize yU b row c=r at *;go_enter func123,ntmps123;go_wp2_with (go_at_call 45;refine G.out.mono ?_;rintro e w1 ⟨rfl,p⟩)
 go_loopw [10,11] (λi _ wr=>∃k:Nat,k<=c.length/\i=ι k/\Hid (r=(yU b row (c.drop k)).map (·+k))/\μ w wr) (λi _ _=>c.length-(intOf i).toNat);exact⟨0,zv _,rfl,H0,p⟩;obtain⟨k,hk,rfl,X,d⟩:=hrel;by_cases C:k<c.length
 .have K:(k:Int)<(c.length:Int):=by omega
  obtain⟨g,al,ad,rfl,hg,c0,c1,hS⟩:=HC.out wr k C d;have q:=X.out;rw[FX C] at q;have D:=Ry q;clear q X;have O:=Ry (ab.out wr ad _ _ d hS (T.out _ (zt C)));clear hS;generalize c[k].2.1=fr at *;generalize c[k].1=fp at *;by_cases B:fp=b
  .have V:=jF B;by_cases j:fr=row
   .have u:Hid (r=some k):=show r=some k by rw[D.out,zb ⟨B,j⟩];simp
    have M:=Ry (Y.out (by rw[u.out];rfl));rw[show decide (fr=row)=true by simp[j]] at O;clear D B j;go_wp2_with (go_at_call 84;refine O.out.mono ?_;rintro e w3 ⟨rfl,n⟩)
    go_ret;exact⟨_,rfl,by rw[Hid,M.out];exact A.out _ (R5 d n),zc.of (R5 d n)⟩
   have u:Hid (r=(yU b row (c.drop (k+1))).map (·+(k+1))):=show r=_ by
    rw[D.out,za (λz=>j z.2),Option.map_map];congr 1;funext z;simp only[Function.comp];omega
   rw[show decide (fr=row)=false by simp[j]] at O;clear D B j;go_wp2_with (go_at_call 84;refine O.out.mono ?_;rintro e w3 ⟨rfl,n⟩)
   exact⟨⟨k+1,by omega,by go_num,u,R5 d n⟩,by simp[intOf];omega⟩
  have V:=qb B;have u:Hid (r=(yU b row (c.drop (k+1))).map (·+(k+1))):=show r=_ by
   rw[D.out,za (λz=>B z.1),Option.map_map];congr 1;funext z;simp only[Function.comp];omega
  clear D B;go_wp2;exact⟨⟨k+1,by omega,by go_num,u,d⟩,by simp[intOf];omega⟩
 have K:¬(k:Int)<(c.length:Int):=by omega
 have u:Hid (r=none):=show r=none by
  rw[X.out,ua (by omega)];rfl
 have M:=Ry (ai.out Z.out (by rw[u.out];simp));obtain⟨c1,an⟩:=ae.out _ d;have hu:μ wr (wr.alloc (.cells #[.string b,.slice J row.length s,ι l] 56)):=(zp _ _).alloc (zf _) _;have x:=R5 d hu;have HX:=Ry (yR.one (f:=(b,row,l)) (Rz.new wr (SW (b,row,l) (.slice J row.length s)).toArray 56) (aa.out _ x));have ah:=Ry (A.out _ x);have H:=Ry x;go_wp2_with (at_builtin;refine Bg rfl (.tmp 41) (.tmp 49) rfl _ _ _ _ rfl rfl ah.out HX.out (by simp;omega) (zZ af H.out.size) ?_;intro v8 w8 U ac)
 go_ret;exact⟨_,rfl,by rw[Hid,M.out];exact U,(zc.of H.out).trans ac⟩
end
section
open Go.Proofs.Tryz
variable {z:Nat->Prop}{cs:List zd}{t:List zg}
def f5.clr{w:World}{g o:Nat}{c:zd}{e:Option Addr}{cap:Nat}{d:Option Addr}{a:Nat}(h:f5 w g o c e cap d a)(r:∀b,(Value.slice e c.head.args.length cap).ownBlock=some b->¬z b):Tz z w g o c:=by
 refine⟨h.lt,h.c1,⟨_,h.c2,h.args,r⟩,d,a,h.c3,λj u=>?_⟩;obtain⟨p,k,f,l,m,i,n,s,q⟩:=h.body.cell j u;exact⟨p,l,m,i,n,_,s,q⟩
structure T9 (z:Nat->Prop) (w:World) (pb:Nat) (ao:Option Addr) (cap:Nat) (aop:Option Addr) (capp:Nat) (aok:Option Addr) (capk:Nat) (cs:List zd) (t:List zg):Prop where
 box:Rz w pb #[.slice ao cs.length cap,.slice aop t.length capp,.slice aok t.length capk] 45
 cl:∀i (h:i<cs.length),∃g,ao=some ⟨g,0,none⟩/\Tz z w g (i*4) cs[i]
 names:R7 0 w (.slice aop t.length capp) (R4 t)
 strata:∀i (h:i<t.length),∃g,aok=some ⟨g,0,none⟩/\g<w.heap.size/\w.cell? ⟨g,i,none⟩=some (ι (t[i].qh:Nat))
def T9.below{w w':World}{pb:Nat}{l:Option Addr}{cap:Nat}{e:Option Addr}{a:Nat}{c:Option Addr}{b:Nat}{cs:List zd}{t:List zg}(h:T9 z w pb l cap e a c b cs t)(d:μ w w'):T9 z w' pb l cap e a c b cs t:=by
 refine⟨h.box.below d,λi j=>?_,h.names.below d,λi j=>?_⟩;obtain⟨g,k,f⟩:=h.cl i j;exact⟨g,k,f.below d⟩;obtain⟨g,k,f,m⟩:=h.strata i j;exact⟨g,k,yE f d.size,(zl d f m)⟩
def ka.read{lo:Nat}{s w:World}{pb:Nat}(H:ka lo s pb cs t)(hs:SC lo s w)(Q:∀b,z b->b<lo∨s.heap.size<=b):∃n f h a d c,T9 z w pb n f h a d c cs t:=by
 obtain⟨_,cv,pv,kv,k,B,p,F⟩:=H.same hs;obtain⟨n,f,rfl⟩:=B.qy;obtain⟨h,a,rfl⟩:=p.qy;obtain⟨d,c,rfl⟩:=zq F;have e:(R4 t).length=t.length:=by simp[R4]
 rw[e] at k p;refine⟨n,f,h,a,d,c,k,λi l=>?_,yk p (zv _),λi l=>?_⟩;obtain⟨g,U,D,M,x,r,G⟩:=B.at i l;refine⟨g,r,G.clr ?_⟩;obtain⟨V,O,N,S,Y,J,_,_⟩:=H;have j:=Y.same V hs;rw[Rz] at k j;rw[k] at j;simp only[zr,Obj.cells.injEq,Array.mk.injEq,lP,and_true] at j;have X:=j.1.symm;subst X;obtain⟨g',I,q,v,o,y,P,_,_,L,_,E,_⟩:=J.cell i l;rw[r] at y;cases y;have m:lo<=g:=by
  obtain⟨Z,A,_⟩:=J;rw[r] at A;exact yX A rfl
 have u:w.cell? ⟨g,i*4+2,none⟩=s.cell? ⟨g,i*4+2,none⟩:=by simp[World.cell?,hs g m P]
 rw[G.c2,L] at u;rw[zr] at u;rw[u];intro b C T;have a1:=yX E C;have a2:=yA E C;have a3:=Q b T;omega;obtain⟨g,K,R,_,m,W⟩:=yw F (by omega);cases R;refine⟨g,rfl,m,W i _ ?_⟩;simp[l,Sf]
def ea(a:ul cs t){c:zd}(m:c∈cs):fq (R4 t) c.head.pred=(zF t c.head.pred:Nat)/\∃h:zF t c.head.pred<t.length,t[zF t c.head.pred].qh=xH t c.head.pred:=by
 obtain⟨b,o,g,n⟩:=a.lit c m c.head (by simp[zm]);have j:c.head.pred∈R4 t:=by
  rw[←g,(fo a.rise b).2];exact zE.2 ⟨_,zt _,rfl⟩
 obtain⟨k,p,f⟩:=wV j;obtain⟨i,l⟩:=fZ f;have d:k<t.length:=by simpa [R4] using i
 have e:zF t c.head.pred=k:=by
  have q:=fo a.rise d;have:vj t k=c.head.pred:=by
   rw[q.2,←l];simp[R4]
  rw[←this];exact q.1
 refine⟨by unfold fq;rw[f,e],b,?_⟩;have q:=(iw a.rise b).1;rw[←(fo a.rise b).2,g] at q;unfold xH;rw[q]
def AF{s i:Nat}(a:i<cs.length):yt t (cs.take (i+1)) s=if xH t cs[i].head.pred=s/\0<cs[i].body.length then yt t (cs.take i) s++[cs[i]] else yt t (cs.take i) s:=by
 unfold yt;rw[yP a,rq];by_cases q:xH t cs[i].head.pred=s/\0<cs[i].body.length;rw[zb q,List.filter_cons_of_pos (by simpa using q),List.filter_nil];rw[za q,List.filter_cons_of_neg (by simpa using q),List.filter_nil,vR]
def Kd{s i:Nat}(d:i<cs.length)(q:xH t cs[i].head.pred=s/\0<cs[i].body.length):(yt t cs s).isEmpty=false:=by
 have:cs[i]∈yt t cs s:=xj.2 ⟨zt d,decide_eq_true q⟩;rcases c:yt t cs s with _|⟨a,b⟩;rw[c] at this;cases this;rfl
def IQ(w:World)(pb:Nat)(B:Option Addr)(cap:Nat)(N:Option Addr)(p:Nat)(m:Option Addr)(k:Nat)(cs:List zd)(t:List zg)(s:Nat)(h:T9 z w pb B cap N p m k cs t)(A:ul cs t)(hl:cs.length<=1000)(ht:t.length<=1000)(r:∀c∈cs,xH t c.head.pred<=1000)(hs:s<=1000):
  Calls prog 124 #[(π pb),ι s] w λe C=>e=ε (.bool (!(yt t cs s).isEmpty))/\C=w:=by
 have y:Hid (∀c∈cs,Calls prog 111 #[(π pb),.string c.head.pred] w λe C=>e=ε (ι (zF t c.head.pred:Nat))/\C=w):=λc G=>by
  have:=mH w pb _ _ _ (R4 t) c.head.pred h.box h.names (by simp[R4];omega);rw[(ea A G).1] at this;exact this
 have I:Hid (∀c∈cs,zF t c.head.pred<t.length/\∃g,m=some ⟨g,0,none⟩/\g<w.heap.size/\w.cell? ⟨g,zF t c.head.pred,none⟩=some (ι (xH t c.head.pred:Nat))):=λc G=>by
  obtain⟨l,d⟩:=(ea A G).2;obtain⟨g,T,X,r3⟩:=h.strata _ l;exact⟨l,g,T,X,by rw[r3,d]⟩
 have K:Hid (∀i (j:i<cs.length),∃g,B=some ⟨g,0,none⟩/\g<w.heap.size/\w.cell? ⟨g,i*4+1,none⟩=some (.string cs[i].head.pred)/\∃u v,w.cell? ⟨g,i*4+3,none⟩=some (.slice u cs[i].body.length v)):=λi j=>by
  obtain⟨g,l,d⟩:=h.cl i j;obtain⟨u,v,Y,_⟩:=d.body;exact⟨g,l,d.lt,d.pred,u,v,Y⟩
 have o:=Ry r;have b0:w.cell? ⟨pb,0,none⟩=some (.slice B cs.length cap):=by rw[h.box.rules.1];rfl
 have b2:w.cell? ⟨pb,2,none⟩=some (.slice m t.length k):=by rw[h.box.rules.1];rfl
 have aa:=h.box.lt;have HE:Hid (yt t cs s=yt t (cs.take cs.length) s):=by rw[Hid,uR]
 have D:Hid (∀i (j:i<cs.length),xH t cs[i].head.pred=s->0<cs[i].body.length->(yt t cs s).isEmpty=false):=λi j l d=>Kd j ⟨l,d⟩;have F:Hid (∀i (j:i<cs.length),¬(xH t cs[i].head.pred=s/\0<cs[i].body.length)->yt t (cs.take i) s=[]->yt t (cs.take (i+1)) s=[]):=λi j l d=>by rw[AF j,za l,d]
 clear h A r;generalize yt t cs s=W at *;go_enter func124,ntmps124;go_wp2;go_loopw [5,6] (λH _ wr=>∃i:Nat,i<=cs.length/\H=ι i/\Hid (yt t (cs.take i) s=[])/\wr=w) (λH _ _=>cs.length-(intOf H).toNat);exact⟨0,zv _,rfl,rfl,rfl⟩;obtain⟨i,j,rfl,E,L⟩:=hrel;obtain rfl:=L.symm;by_cases f:i<cs.length
 .have J:(i:Int)<(cs.length:Int):=by omega
  obtain⟨g,rfl,hg,c1,u,v,c3⟩:=K.out i f;have a:=zt f;obtain⟨Z,gk,rfl,ac,ck⟩:=I.out _ a;have x:=Ry (y.out _ a);have V:=o.out _ a;have ab:((zF t cs[i].head.pred:Nat):Int)<(t.length:Int):=by omega
  have H1:=Ry (D.out i f);have Q:=Ry (F.out i f);clear a;generalize cs[i].body.length=bl at *;generalize xH t cs[i].head.pred=O at *;generalize zF t cs[i].head.pred=fk at *;generalize cs[i].head.pred=pr at *;by_cases R:O=s
  .subst R;by_cases P:0<bl
   .have M:(0:Int)<(bl:Int):=by omega
    have n:=Ry (H1.out rfl P);go_wp2_with (go_at_call 111;refine x.out.mono ?_;rintro e S ⟨rfl,b⟩;obtain rfl:=b.symm)
    go_ret;exact⟨by rw[n.out];rfl,rfl⟩
   have M:¬(0:Int)<(bl:Int):=by omega
   have n:=Ry (Q.out (λq=>P q.2) E.out);go_wp2_with (go_at_call 111;refine x.out.mono ?_;rintro e S ⟨rfl,b⟩;obtain rfl:=b.symm)
   go_roundw;exact⟨i+1,by omega,by go_num,n,trivial⟩;simp[intOf];omega
  have U:¬((O:Int)=(s:Int)):=by omega
  have n:=Ry (Q.out (λq=>R q.1) E.out);go_wp2_with (go_at_call 111;refine x.out.mono ?_;rintro e S ⟨rfl,b⟩;obtain rfl:=b.symm)
  go_roundw;exact⟨i+1,by omega,by go_num,n,trivial⟩;simp[intOf];omega
 have J:¬(i:Int)<(cs.length:Int):=by omega
 obtain rfl:i=cs.length:=by omega
 have n:=Ry (HE.out.trans E.out);go_wp2;go_ret;exact⟨by rw[n.out];rfl,rfl⟩
end
section
open Go.Proofs.Tryz
variable {z:Nat->Prop}
def BZ(fs l:List zC)(f:zC):l.length<=(ug fs l f).length:=by
 unfold ug;split<;>simp
def wH{α:Type}(g:List zC->α->List zC)(b:∀l x,l.length<=(g l x).length):∀(a:List α) (l:List zC),l.length<=(a.foldl g l).length
 |[],_=>zf _
 |x::a,l=>zZ (b l x) (wH g b a (g l x))
def GM{α:Type}(g:List zC->α->List zC)(b:∀l x,l.length<=(g l x).length)(a:List α)(l:List zC)(k:Nat):((a.take k).foldl g l).length<=(a.foldl g l).length:=by
 conv=>rhs;rw[←jx k a,jr]
 exact wH g b _ _
def Jz(fs:List zC)(k:Nat)(a:List zd)(l:List zC):l.length<=(xM fs k a l).length:=wH _ (λl _=>wH _ (λl _=>BZ fs l _) _ l) a l
def Cl(fs:List zC)(k:Nat)(b a:List zd)(l:List zC):xM fs k (b++a) l=xM fs k a (xM fs k b l):=by
 unfold xM;rw[jr]
def M6(fs:List zC)(k:Nat)(t:List zg)(cs:List zd)(s i:Nat):(xM fs k (yt t (cs.take i) s) []).length<=(xM fs k (yt t cs s) []).length:=by
 have:yt t cs s=yt t (cs.take i) s++yt t (cs.drop i) s:=by
  unfold yt;rw[←rq,jx]
 rw[this,Cl];exact Jz _ _ _ _
def oZ{fs:List zC}{h:zk}{body:List zk}:∀(rest:List zk) (B:y9) (r:κ),r∈yp fs h body rest B->r.length=h.args.length
 |[],B,r,a=>by
  unfold yp at a;split at a
  .cases a
  .rw[xC.1 a];simp[yD]
 |l::rest,B,r,a=>by
  unfold yp at a;split at a
  .exact oZ rest B r a
  .obtain⟨f,_,a⟩:=uP.1 a;split at a
   .split at a
    .cases a
    .exact oZ rest _ r a
   .cases a
def Px{fs l:List zC}{f:zC}{n:Nat}(b:∀g∈l,g.2.1.length<=n)(c:f.2.1.length<=n):∀g∈ug fs l f,g.2.1.length<=n:=by
 intro g a;unfold ug at a;split at a;exact b g a;rcases zW.1 a with q|q;exact b g q;rw[xC.1 q];exact c
def ia{fs:List zC}{n:Nat}{p:ByteArray}{k:Nat}:∀(rs:List (κ)) (l:List zC),(∀g∈l,g.2.1.length<=n)->(∀r∈rs,r.length<=n)->∀g∈rs.foldl (λl r=>ug fs l (p,r,k)) l,g.2.1.length<=n
 |[],_,a,_=>a
 |r::rs,l,a,b=>ia rs _ (Px a (b r (by simp))) (λx c=>b x (by simp[c]))
def IP(w:World)(pb mb n s:Nat)(fv:Value)(ao:Option Addr)(cap:Nat)(aK:Option Addr)(an:Nat)(ac:Option Addr)(Q:Nat)(cs:List zd)(t:List zg)(fs:List zC)(h:T9 z w pb ao cap aK an ac Q cs t)(hz:S0 z w.heap.size)(hm:Rz w mb #[fv,ι n] 54)(hf:mZ w fv fs)(hx:ul cs t)(hl:cs.length<=1000)(ht:t.length<=1000)(aw:∀c∈cs,xH t c.head.pred<=1000)(hs:s<=1000)(a2:∀c∈cs,c.body.length<=30)(Z:∀c∈cs,∀l∈zm c,l.args.length<=3/\∀a∈l.args,0<a.size)(a4:fs.length<=10000000)(ah:∀f∈fs,f.2.1.length<=1000000)(hF:rP cs fs)(av:(xM fs n (yt t cs s) []).length<1000000000000)(ag:∀c∈cs,(yp fs c.head c.body c.body []).length<=1000000000000):
  Calls prog 125 #[(π pb),(π mb),ι s] w λe A=>∃v,e=.returned v/\Hid (yR z w.heap.size A v (xM fs n (yt t cs s) []))/\Hid (μ w A):=by
 have aU:Hid (∀W c,μ w W->c∈cs->Calls prog 111 #[(π pb),.string c.head.pred] W λe A=>e=ε (ι (zF t c.head.pred:Nat))/\A=W):=λW c m hc=>by
  have:=mH W pb _ _ _ (R4 t) c.head.pred (h.below m).box (h.below m).names (by simp[R4];omega);rw[(ea hx hc).1] at this;exact this
 have aX:Hid (∀W c,μ w W->c∈cs->zF t c.head.pred<t.length/\∃g,ac=some ⟨g,0,none⟩/\g<W.heap.size/\W.cell? ⟨g,zF t c.head.pred,none⟩=some (ι (xH t c.head.pred:Nat))):=λW c m hc=>by
  obtain⟨D,F⟩:=(ea hx hc).2;obtain⟨g,r1,r2,r3⟩:=(h.below m).strata _ D;exact⟨D,g,r1,r2,by rw[r3,F]⟩
 have a7:Hid (∀W i (C:i<cs.length),μ w W->∃g,ao=some ⟨g,0,none⟩/\g<W.heap.size/\g<w.heap.size/\Tz z W g (i*4) cs[i]):=λW i C m=>by
  obtain⟨g,D,F⟩:=h.cl i C;exact⟨g,D,yE F.lt m.size,F.lt,F.below m⟩
 have aQ:Hid (∀W,μ w W->W.cell? ⟨pb,0,none⟩=some (.slice ao cs.length cap)/\W.cell? ⟨pb,2,none⟩=some (.slice ac t.length Q)/\pb<W.heap.size):=λW m=>⟨by rw[(h.below m).box.rules.1];rfl,by rw[(h.below m).box.rules.1];rfl,(h.below m).box.lt⟩;have aq:Hid (∀W i (C:i<cs.length) g,μ w W->Tz z W g (i*4) cs[i]->Calls prog 166 #[(π mb),.pointer (some ⟨g,i*4,none⟩),ι 0,.agg #[ν,ν]] W λe A=>∃v,e=.returned v/\Hid (xx z W.heap.size A v (yp fs cs[i].head cs[i].body cs[i].body []))/\Hid (μ W A)):=λW i C g m hc=>by
  have j:=zt C;exact CE mb n g (i*4) fv cs[i] fs (a2 _ j) (Z _ j) a4 ah (λf hf l hl e=>hF.ji f hf _ j l hl e.symm) hF.ne cs[i].body 0 W _ _ [] (zv _) rfl (by simp) (λv x q=>by cases q) (ag _ j) ⟨hm.below m,hf.below m,hc,R7.nil W,R7.nil W,hz.up m.size⟩
 have T:=Ry λW O rv al row (ls:List zC) (m:μ w W) (h1:yR z w.heap.size W O ls) (h2:SA z W rv row) (h3:ls.length<1000000000000) (h4:row.length<=1000000) (h5:(∀f∈ls,f.2.1.length<=1000000))=>EF W mb n fv O rv fs ls al row (hm.below m) (hf.below m) h1 h2 a4 h3 h4 ah h5 m.size;have au:=Ry aw;have HE:Hid (xM fs n (yt t cs s) []=xM fs n (yt t (cs.take cs.length) s) []):=by rw[Hid,uR]
 have aE:=Ry λi=>Nat.lt_of_le_of_lt (M6 fs n t cs s i) av;have aA:Hid (∀i (C:i<cs.length),xH t cs[i].head.pred=s->0<cs[i].body.length->xM fs n (yt t (cs.take (i+1)) s) []=(yp fs cs[i].head cs[i].body cs[i].body []).foldl (λl r=>ug fs l (cs[i].head.pred,r,n)) (xM fs n (yt t (cs.take i) s) [])):=λi C D F=>by
  rw[AF C,zb ⟨D,F⟩,Cl];rfl
 have aW:Hid (∀i (C:i<cs.length),¬(xH t cs[i].head.pred=s/\0<cs[i].body.length)->xM fs n (yt t (cs.take (i+1)) s) []=xM fs n (yt t (cs.take i) s) []):=λi C D=>by rw[AF C,za D]
 have aC:Hid (∀i (C:i<cs.length),∀r∈yp fs cs[i].head cs[i].body cs[i].body [],r.length<=1000000):=λi C r hr=>by
  rw[oZ _ _ r hr];have:=(Z _ (zt C) cs[i].head (by simp[zm])).1;omega
 have aL:=Ry ag;clear h hm hf hx aw a2 Z ah hF av ag;generalize xM fs n (yt t cs s) []=bh at *;go_enter func125,ntmps125;go_wp2;go_loopw [7,8,9,10,11,12] (λv7 v8 _ _ _ _ wr=>∃i:Nat,i<=cs.length/\v8=ι i/\Hid (yR z w.heap.size wr v7 (xM fs n (yt t (cs.take i) s) []))/\Hid (∀f∈xM fs n (yt t (cs.take i) s) [],f.2.1.length<=1000000)/\Hid (μ w wr)) (λ_ v8 _ _ _ _ _=>cs.length-(intOf v8).toNat);exact⟨0,zv _,rfl,yR.nil _ _,λf hf=>(by cases hf),zp _ _⟩;obtain⟨i,C,rfl,I,N,o⟩:=hrel;obtain⟨b0,b2,aT⟩:=aQ.out _ o.out;by_cases B:i<cs.length
 .have aM:(i:Int)<(cs.length:Int):=by omega
  have j:=zt B;obtain⟨g,rfl,hg,bg,H⟩:=a7.out _ i B o.out;have HC:=Ry H;obtain⟨aZ,gk,rfl,aO,ck⟩:=aX.out _ _ o.out j;have HP:=Ry (aU.out _ _ o.out j);have bm:=au.out _ j;have be:((zF t cs[i].head.pred:Nat):Int)<(t.length:Int):=by omega
  have c1:=H.pred;obtain⟨ab,cb,c3⟩:∃ab cb,wr.cell? ⟨g,i*4+3,none⟩=some (.slice ab cs[i].body.length cb):=by
   obtain⟨ab,cb,c3,_⟩:=H.body;exact⟨ab,cb,c3⟩
  have H1:=Ry (aA.out i B);have H2:=Ry (aW.out i B);have a0:=Ry (aE.out (i+1));have a6:=Ry (aq.out wr i B g o.out H);have ad:=Ry (aC.out i B);have a8:=Ry (aL.out _ j);have a1:Hid (∀W,μ w W->g<W.heap.size/\W.cell? ⟨g,i*4+1,none⟩=some (.string cs[i].head.pred)):=λW m=>by
   obtain⟨g',e,D,_,F⟩:=a7.out W i B m;cases e;exact⟨D,F.pred⟩
  clear j H HC;obtain⟨nx,Y⟩:∃nx,xM fs n (yt t (cs.take (i+1)) s) []=nx:=⟨_,rfl⟩;rw[Y] at H1 H2 a0;have E:=Ry Y;clear Y;generalize xM fs n (yt t (cs.take i) s) []=R at *;generalize yp fs cs[i].head cs[i].body cs[i].body []=d at *;generalize cs[i].body.length=bl at *;generalize xH t cs[i].head.pred=sk at *;generalize zF t cs[i].head.pred=fk at *;generalize cs[i].head.pred=G at *;by_cases h1:sk=s
  .subst h1;by_cases h2:0<bl
   .have aH:¬((bl:Int)=0):=by omega
    have HN:=Ry (H1.out rfl h2);have bf:=a8.out;go_upto_region 9 with (first|(go_at_call 166;refine a6.out.mono ?_;rintro e w2 ⟨aI,rfl,ae,ai⟩)|(go_at_call 111;refine HP.out.mono ?_;rintro e w1 ⟨rfl,K⟩;obtain rfl:=K.symm))
    have a3:=Ry (I.out.below ai.out);have aj:=Ry (R5 o.out ai.out);clear HP a6 b0 b2 aT hg aO ck c1 c3 H1 H2 I ai o;obtain⟨L,u,a5⟩:∃L u,aI=.slice L d.length u:=by
     obtain⟨_,_,q,_⟩:=ae.out;exact zq q
    subst a5;go_wp2;go_loopw [7,12] (λv7 af wz=>∃(k:Nat) (O:Value),k<=d.length/\af=ι k/\v7=O/\Hid (yR z w.heap.size wz O ((d.take k).foldl (λl r=>ug fs l (G,r,n)) R))/\Hid (xx z 0 wz (.slice L d.length u) d)/\Hid (μ w wz)) (λ_ af _=>d.length-(intOf af).toNat);obtain⟨y,D,F,q3⟩:=ae.out;exact⟨0,_,zv _,rfl,rfl,a3,⟨y,D,yk F (zv _),q3⟩,aj⟩;clear a3 aj ae;obtain⟨k,O,hk,rfl,ak,am,ay,X⟩:=hrel;obtain rfl:=ak.symm;clear ak;by_cases U:k<d.length
    .have aD:(k:Int)<(d.length:Int):=by omega
     obtain⟨y,r1,r2,r3⟩:=ay.out;obtain⟨M,bc,aR,_,bb,S⟩:=yw r2 (by omega);cases aR;have V:k<y.length:=by omega
     have bi:wr.cell? ⟨M,k,none⟩=some y[k]:=S k _ (by simp[V]);obtain⟨hg,c1⟩:=a1.out _ X.out;have aP:Hid ((d.take (k+1)).foldl (λl r=>ug fs l (G,r,n)) R=ug fs ((d.take k).foldl (λl r=>ug fs l (G,r,n)) R) (G,d[k],n)):=by
      rw[Hid,yP U,jr];rfl
     have P:((d.take k).foldl (λl r=>ug fs l (G,r,n)) R).length<1000000000000:=by
      refine Nat.lt_of_le_of_lt (GM _ (λl _=>BZ fs l _) d R k) ?_;rw[←HN.out];exact a0.out
     have ax:=ia (fs:=fs) (p:=G) (k:=n) (d.take k) R N.out (λr hr=>ad.out r (dJ hr));have aY:Hid (∀W,μ wr W->Calls prog 123 #[(π mb),O,.string G,y[k]] W λe A=>∃v,e=.returned v/\Hid (yR z w.heap.size A v (ug fs ((d.take k).foldl (λl r=>ug fs l (G,r,n)) R) (G,d[k],n)))/\Hid (xx z 0 A (.slice (some ⟨M,0,none⟩) d.length u) d)/\Hid (μ w A)/\A.cell? ⟨M,k,none⟩=some y[k]/\A.cell? ⟨g,i*4+1,none⟩=some (.string G)):=λW m=>by
      have aa:=R5 X.out m;have ap:=am.out.below m;refine(T.out W O y[k] G d[k] _ aa ap ((r3 k U V).below m) P (ad.out _ (zt U)) ax).mono ?_;rintro e A ⟨v,D,F,q3⟩;obtain⟨_,_,J,_⟩:=id ap;have hS:=q3.out;have az:=hS.below (λb m=>yX J (xb m)) aa.size;have aN:=ay.out.below m;have ar:=aa.trans az;have aG:=yI (zB r2 m) hS (RL.own J) (by decide);obtain⟨g',ba,e2,_,bd,aJ⟩:=yw aG (by omega);cases e2;exact⟨v,D,F,aN.saveT hS (RL.own J) (by decide) (by decide),ar,aJ k _ (by simp[V]),(a1.out _ ar).2⟩
     clear r2 r3 S P ax T;generalize y[k]=rv at *;go_upto_region 12 with fail
     go_region_held3 (λA=>A.cell? ⟨M,k,none⟩=some rv/\A.cell? ⟨g,i*4+1,none⟩=some (.string G)) (first|go_keep|(go_simp;done)) (first|(go_at_call 123;refine(aY.out _ (by exact(by repeat'(first|with_reducible(first|apply zR|assumption|apply zN|apply zA|apply zD|apply zS)|go_size)))).mono ?_;rintro e w5 ⟨v5,rfl,aB,aV,aS,z0,z1⟩))
     go_wp2;go_roundw;exact⟨k+1,_,by omega,by go_num,rfl,by rw[aP.out];exact aB,aV,aS⟩;simp[intOf];omega
    have aD:¬(k:Int)<(d.length:Int):=by omega
    obtain rfl:k=d.length:=by omega
    have aF:Hid (yR z w.heap.size wr O nx):=by
     have q:=am.out;rw[uR,←HN.out] at q;exact q
    have a9:Hid (∀f∈nx,f.2.1.length<=1000000):=by
     rw[HN.out];exact ia d R N.out ad.out
    go_wp2;go_roundw;exact⟨i+1,by omega,by go_num,by rw[E.out];exact aF,by rw[E.out];exact a9,X⟩;simp[intOf];omega
   have aH:(bl:Int)=0:=by omega
   have HF:=Ry (H2.out (λq=>h2 q.2));go_wp2_with (go_at_call 111;refine HP.out.mono ?_;rintro e w1 ⟨rfl,K⟩;obtain rfl:=K.symm)
   go_roundw;exact⟨i+1,by omega,by go_num,by rw[E.out,HF.out];exact I,by rw[E.out,HF.out];exact N,o⟩;simp[intOf];omega
  have bk:¬((sk:Int)=(s:Int)):=by omega
  have HF:=Ry (H2.out (λq=>h1 q.1));go_wp2_with (go_at_call 111;refine HP.out.mono ?_;rintro e w1 ⟨rfl,K⟩;obtain rfl:=K.symm)
  go_roundw;exact⟨i+1,by omega,by go_num,by rw[E.out,HF.out];exact I,by rw[E.out,HF.out];exact N,o⟩;simp[intOf];omega
 have aM:¬(i:Int)<(cs.length:Int):=by omega
 obtain rfl:i=cs.length:=by omega
 go_wp2;go_ret;exact⟨_,rfl,by rw[Hid,HE.out];exact I.out,o⟩
def pX(z:Nat->Prop)(w:World)(a:Option (List zC×Nat))(e:Ending)(w':World):Prop:=match a with
 |none=>e=ε (.pointer none)/\Hid (μ w w')
 |some (L,k)=>∃b,e=ε ((π b))/\Hid (∃c,w.heap.size<=b/\Rz w' b #[c,ι k] 54/\yR z w.heap.size w' c L)/\Hid (μ w w')
structure Te (z:Nat->Prop) (w wr:World) (mb:Nat) (fv:Value) (L:List zC) (k:Nat):Prop where
 hmb:w.heap.size<=mb
 box:Rz wr mb #[fv,ι k] 54
 fl:yR z w.heap.size wr fv L
 bel:μ w wr
def Te.below{w wr w':World}{c:Nat}{b:Value}{L:List zC}{k:Nat}(h:Te z w wr c b L k)(a:μ wr w'):Te z w w' c b L k:=⟨h.hmb,h.box.below a,h.fl.below a,R5 h.bel a⟩
def Te.up{w wr:World}{a:Nat}{b:Value}{L:List zC}{k:Nat}(h:Te z w wr a b L k):Te z w (wr.setCell ⟨a,1,none⟩ (ι ((k:Int)+1))) a b L (k+1):=by
 refine⟨h.hmb,?_,h.fl.saveT (zc.set _ _ _ _) (RL.box h.box) (by decide) (by decide),h.bel.setCell h.hmb _⟩;have:=h.box.set 1 (ι ((k:Int)+1));simpa using this
def Te.put{w wr:World}{e:Nat}{h a:Value}{g:List zC}{k:Nat}(d:w.heap.size<=e)(b:Rz wr e #[h,ι k] 54)(f:yR z w.heap.size wr a g)(c:μ w wr):Te z w (wr.setCell ⟨e,0,none⟩ a) e a g k:=by
 refine⟨d,?_,f.saveT (zc.set _ _ _ _) (RL.box b) (by decide) (by decide),c.setCell d _⟩;have:=b.set 0 a;simpa using this
def AM{cs:List zd}{i:Nat}(a:i<cs.length):xP (cs.take (i+1))=if cs[i].body.length=0 then ug [] (xP (cs.take i)) (cs[i].head.pred,cs[i].head.args,0) else xP (cs.take i):=by
 unfold xP;rw[yP a,rq];by_cases q:cs[i].body.length=0;rw[zb q,List.filter_cons_of_pos (by simpa using q),List.filter_nil,vg,jr];rfl;rw[za q,List.filter_cons_of_neg (by simpa using q),List.filter_nil,vR]
def He(cs:List zd):(xP cs).length<=cs.length/\∀f∈xP cs,∃c∈cs,f=(c.head.pred,c.head.args,0):=by
 have:∀i,i<=cs.length->(xP (cs.take i)).length<=i/\∀f∈xP (cs.take i),∃c∈cs,f=(c.head.pred,c.head.args,0):=by
  intro i;induction i with
  |zero=>intro _;exact⟨by simp[xP],λf a=>by simp[xP] at a⟩
  |succ i d=>
   intro g;obtain⟨e,b⟩:=d (by omega);rw[AM (by omega)];split;unfold ug;split;exact⟨by omega,b⟩;refine⟨by simp;omega,λf a=>?_⟩;rcases zW.1 a with q|q;exact b f q;exact⟨cs[i],zt _,xC.1 q⟩;exact⟨by omega,b⟩
 have h:=this cs.length (zf _);rw[uR] at h;exact h
def JT(w:World)(pb mr mx:Nat)(ao:Option Addr)(cap:Nat)(ae:Option Addr)(B:Nat)(a8:Option Addr)(Q:Nat)(cs:List zd)(t0 t:List zg)(hz:S0 z w.heap.size)(h:T9 z w pb ao cap ae B a8 Q cs t)(hp:RI cs t0 t)(hx:ul cs t)(hl:cs.length<=1000)(ht:t.length<=1000)(a4:∀c∈cs,xH t c.head.pred<=1000)(aQ:∀c∈cs,c.body.length<=30)(ag:∀c∈cs,∀l∈zm c,l.args.length<=3/\∀a∈l.args,0<a.size)(b3:mr<=1048576)(b7:mx<=1048576)(aj:∀L D,Sq t (zo cs) L D->L.length<1000000000000/\∀c∈cs,(yp L c.head c.body c.body []).length<=1000000000000):
  Calls prog 76 #[(π pb),ι mr,ι mx] w λe G=>pX z w (ymk t cs mr mx) e G:=by
 have b5:=Ry λW (j:μ w W)=>h.below j;have a9:Hid (∀W,μ w W->W.cell? ⟨pb,0,none⟩=some (.slice ao cs.length cap)/\W.cell? ⟨pb,1,none⟩=some (.slice ae t.length B)/\pb<W.heap.size):=λW j=>⟨by rw[(h.below j).box.rules.1];rfl,by rw[(h.below j).box.rules.1];rfl,(h.below j).box.lt⟩;have aX:Hid (∀W i (hi:i<cs.length),μ w W->∃g av ab cb,ao=some ⟨g,0,none⟩/\g<W.heap.size/\g<w.heap.size/\W.cell? ⟨g,i*4+1,none⟩=some (.string cs[i].head.pred)/\W.cell? ⟨g,i*4+2,none⟩=some av/\SA z W av cs[i].head.args/\W.cell? ⟨g,i*4+3,none⟩=some (.slice ab cs[i].body.length cb)):=λW i hi j=>by
  obtain⟨g,q1,q2⟩:=h.cl i hi;have q3:=q2.below j;obtain⟨av,q4,q5⟩:=q3.args;obtain⟨ab,cb,q6,_⟩:=q3.body;exact⟨g,av,ab,cb,q1,q3.lt,q2.lt,q3.pred,q4,q5,q6⟩
 have bq:=Ry λW s j hs=>IQ W pb ao cap ae B a8 Q cs t s (h.below j) hx hl ht a4 hs;have bm:Hid (∀W s mb C L D k,Te z w W mb C L k->Sq t (zo cs) L D->L.length<=1048576->s<=1000->Calls prog 125 #[(π pb),(π mb),ι (s:Nat)] W λe G=>∃v,e=.returned v/\Hid (yR z W.heap.size G v (xM L k (yt t cs s) []))/\Hid (μ W G)):=λW s mb C L D k hM hR hL hs=>by
  have bi:=(aj _ _ (hR.round hp hx s k).1).1;rw[yC] at bi;exact IP W pb mb k s C ao cap ae B a8 Q cs t L (h.below hM.bel) (hz.up hM.bel.size) hM.box hM.fl.facts hx hl ht a4 hs aQ ag (by omega) (λf hf=>by
   obtain⟨p,bh,r,m,_,rfl⟩:=(hR.mem f).1 hf;simp only[gT];have:=hx.small p bh;omega) (hR.fs hx) (by omega) (aj _ _ hR).2
 have aS:=Ry ag;have ay:Hid (xP cs=xP (cs.take cs.length)):=by rw[Hid,uR]
 have a3:Hid (∀i,(xP (cs.take i)).length<=1000/\∀f∈xP (cs.take i),f.2.1.length<=1000000):=λi=>by
  obtain⟨q1,q2⟩:=He (cs.take i);refine⟨by simp at q1;omega,λf hf=>?_⟩;obtain⟨c,hc,rfl⟩:=q2 f hf;have:=(ag c (dJ hc) c.head (by simp[zm])).1;show c.head.args.length<=_;omega
 have aO:Hid (∀i (hi:i<cs.length),xP (cs.take (i+1))=if cs[i].body.length=0 then ug [] (xP (cs.take i)) (cs[i].head.pred,cs[i].head.args,0) else xP (cs.take i)):=λi hi=>AM hi;have aN:=Ry (DM hx);have aY:=Ry λL D s k (q:Sq t (zo cs) L D)=>(q.round hp hx s k).1;have bp:=Ry λL D q=>(aj L D q).1;have aJ:Hid (ymk t cs mr mx=if (xP cs).length<=mr then zyk t cs mr mx t.length 0 0 (xP cs) else none):=rfl;obtain⟨b0,b1,U⟩:=a9.out w (zp _ _);clear h hp hx a4 aQ ag aj;generalize ymk t cs mr mx=d at *;go_enter func76,ntmps76;go_wp2;have K:Hid (Te z w (w.alloc (.cells #[ν,ι 0] 54)) w.heap.size (ν) [] 0):=⟨zf _,Rz.new _ _ _,yR.nil _ _,(zp _ _).alloc (zf _) _⟩;generalize be:w.alloc (.cells #[ν,ι 0] 54)=wA at *;clear be b0 b1 U;go_loopw [8,9,10] (λv8 v9 _ wr=>∃(i:Nat) (lv:Value),i<=cs.length/\v9=ι i/\v8=lv/\Hid (yR z wA.heap.size wr lv (xP (cs.take i)))/\Hid (μ wA wr)) (λ_ v9 _ _=>cs.length-(intOf v9).toNat)
 case atStart=>exact⟨0,_,zv _,rfl,rfl,yR.nil _ _,zp _ _⟩
 obtain⟨i,lv,hi,rfl,Y,ac,y⟩:=hrel;obtain rfl:=Y.symm;clear Y;have Z:=Ry (R5 K.out.bel y.out);obtain⟨b0,b1,U⟩:=a9.out _ Z.out;by_cases aB:i<cs.length
 .have bn:(i:Int)<(cs.length:Int):=by omega
  obtain⟨g,av,ab,cb,rfl,hg,bo,c1,c2,ar,c3⟩:=aX.out _ i aB Z.out;have af:=Ry (aO.out i aB);obtain⟨aK,a6⟩:=a3.out i;have b2:=(aS.out _ (zt aB) cs[i].head (by simp[zm])).1;by_cases j:cs[i].body.length=0
  .have a1:Hid (xP (cs.take (i+1))=ug [] (xP (cs.take i)) (cs[i].head.pred,cs[i].head.args,0)):=by rw[Hid,af.out,zb j]
   rw[j] at c3;have bx:Hid (∀W,μ wr W->Calls prog 123 #[.pointer (some ⟨w.heap.size,0,none⟩),lv,.string cs[i].head.pred,av] W λe G=>∃v,e=.returned v/\Hid (yR z wA.heap.size G v (ug [] (xP (cs.take i)) (cs[i].head.pred,cs[i].head.args,0)))/\Hid (μ wA G)/\G.cell? ⟨g,i*4+1,none⟩=some (.string cs[i].head.pred)/\G.cell? ⟨g,i*4+2,none⟩=some av):=λW j=>by
    have ah:=R5 y.out j;have aI:=ac.out.below j;refine(EF W w.heap.size 0 _ lv av [] (xP (cs.take i)) cs[i].head.pred cs[i].head.args (K.out.box.below ah) (yR.nil (z:=z) 0 W).facts aI (ar.below j) (by simp) (by omega) (by omega) (λf hf=>by cases hf) a6 ah.size).mono ?_;rintro e G ⟨v,q1,q2,q3⟩;obtain⟨_,_,aM,_⟩:=id aI;have aw:=ah.trans (q3.out.below (λb j=>yX aM (xb j)) ah.size);have ai:=yE bo K.out.bel.size;have k1:=(y.out.cell (p:=⟨g,i*4+1,none⟩) ai).symm.trans c1;have k2:=(y.out.cell (p:=⟨g,i*4+2,none⟩) ai).symm.trans c2;exact⟨v,q1,q2,aw,(zl aw ai k1),(zl aw ai k2)⟩
   clear ar af aK a6;generalize ug [] (xP (cs.take i)) (cs[i].head.pred,cs[i].head.args,0)=nx at *;generalize cs[i].head.pred=pr at *;go_upto_region 8 with fail
   go_region_held3 (λG=>G.cell? ⟨g,i*4+1,none⟩=some (.string pr)/\G.cell? ⟨g,i*4+2,none⟩=some av) (first|go_keep|(go_simp;done)) (first|(go_at_call 123;refine(bx.out _ (by exact(by repeat'(first|with_reducible(first|apply zR|assumption|apply zN|apply zA|apply zD|apply zS)|go_size)))).mono ?_;rintro e w5 ⟨v5,rfl,bd,bs,z0,z1⟩))
   go_wp2;go_roundw;exact⟨i+1,_,by omega,by go_num,rfl,by rw[a1.out];exact bd,bs⟩;simp[intOf];omega
  have a1:Hid (xP (cs.take (i+1))=xP (cs.take i)):=by rw[Hid,af.out,za j]
  have b8:¬((cs[i].body.length:Int)=0):=by omega
  clear ar af aK a6 j;generalize cs[i].body.length=bl at *;go_wp2;go_roundw;exact⟨i+1,_,by omega,by go_num,rfl,by rw[a1.out];exact ac,y⟩;simp[intOf];omega
 have bn:¬(i:Int)<(cs.length:Int):=by omega
 obtain rfl:i=cs.length:=by omega
 have ax:Hid (yR z wA.heap.size wr lv (xP cs)):=by rw[ay.out];exact ac
 have aT:=(a3.out cs.length).1;rw[←ay.out] at aT;have aF:=K.out.box.below y.out;have J:=Ry (Te.put (zf _) aF (ax.out.low K.out.bel.size) Z.out);have P:=Ry aJ.out;obtain⟨az,R,Y⟩:∃az R,lv=.slice az (xP cs).length R:=by
  obtain⟨_,_,q,_⟩:=ax.out;exact zq q
 subst Y;obtain⟨mc,mf,x⟩:=aF.boxed;clear aF ax ac ay aO a3 aS aX aJ;generalize xP cs=L0 at *;go_upto_region 10 with fail
 generalize wr.setCell ⟨w.heap.size,0,none⟩ (.slice az L0.length R)=wB at *;clear mc mf x b0 b1 U y Z;obtain⟨mc,mf,x⟩:=J.out.box.boxed;obtain⟨b0,b1,U⟩:=a9.out _ J.out.bel;by_cases hq:L0.length<=mr
 .have aP:¬((mr:Int)<(L0.length:Int)):=by omega
  have aH:Hid (zyk t cs mr mx t.length 0 0 L0=d):=by rw[Hid,P.out,zb hq]
  go_wp2;clear mc mf x b0 b1 U P;go_loopw [12,13,14] (λaD _ _ wz=>∃(s k:Nat) (L:List zC) (C:Value),s<=t.length/\aD=ι s/\L.length<=mr/\k<=mx/\Hid (Te z w wz w.heap.size C L k)/\Hid (∃D,Sq t (zo cs) L D)/\Hid (zyk t cs mr mx (t.length-s) s k L=d)) (λaD _ _ _=>t.length-(intOf aD).toNat)
  case atStart=>exact⟨0,0,L0,_,zv _,rfl,hq,zv _,J,⟨_,aN.out⟩,aH⟩
  clear J aN aH hq aP aT;obtain⟨s,k,L,C,hs,rfl,aa,ad,H,I,HS⟩:=hrel;by_cases b6:s<t.length
  .have br:(s:Int)<(t.length:Int):=by omega
   obtain⟨n,hn⟩:∃n,t.length-s=n+1:=⟨t.length-s-1,by omega⟩;have aZ:=Ry (show t.length-(s+1)=n by omega);have aR:Hid (d=if yt t cs s=[] then zyk t cs mr mx n (s+1) k L else match z0g t cs mr s (mx-k) k L with|none=>none|some (L',k')=>zyk t cs mr mx n (s+1) k' L'):=by
    have q:=HS.out;rw[hn,zyk] at q;exact q.symm
   have ap:=Ry (bq.out wr s H.out.bel (by omega));clear hn HS;go_wp2_with (go_at_call 124;refine ap.out.mono ?_;rintro e w1 ⟨rfl,bv⟩;obtain rfl:=bv.symm)
   clear ap;go_loopg [13,14] (mx+1) (λf ba _ wz=>∃(b:Bool) (k:Nat) (L:List zC) (C:Value),ba=.bool b/\(b=true->mx-k<f)/\L.length<=mr/\k<=mx/\Hid (Te z w wz w.heap.size C L k)/\Hid (∃D,Sq t (zo cs) L D)/\Hid (d=if b=false then zyk t cs mr mx n (s+1) k L else match z0g t cs mr s (mx-k) k L with|none=>none|some (L',k')=>zyk t cs mr mx n (s+1) k' L'))
   case atStart=>
    refine⟨!(yt t cs s).isEmpty,k,L,C,rfl,λ_=>by omega,aa,ad,H,I,?_⟩;rw[Hid,aR.out];rcases yt t cs s with _|⟨a,b⟩;rfl;rfl
   clear H I aR aa ad;obtain⟨b,k,L,C,rfl,a5,aa,ad,H,I,HS⟩:=hrel;cases b
   .have X:Hid (zyk t cs mr mx n (s+1) k L=d):=HS.out.symm;go_wp2;go_roundw;exact⟨s+1,k,L,C,by omega,by go_num,aa,ad,H,I,by rw[aZ.out];exact X⟩;simp[intOf];omega
   have X:Hid (d=match z0g t cs mr s (mx-k) k L with|none=>none|some (L',k')=>zyk t cs mr mx n (s+1) k' L'):=HS.out;have b4:=a5 rfl;obtain⟨mc,mf,x⟩:=H.out.box.boxed;by_cases bu:k=mx
   .subst bu;have V:Hid (d=none):=by rw[Hid,X.out,jv];rfl
    clear a5;go_wp2;go_ret;unfold pX;rw[V.out];exact⟨rfl,H.out.bel⟩
   have bz:¬((k:Int)=(mx:Int)):=by omega
   obtain⟨left,O⟩:∃left,mx-k=left+1:=⟨mx-k-1,by omega⟩;have bk:=Ry (show mx-(k+1)=left by omega);have aC:=X.out;rw[O,z0g] at aC;have HU:=Ry (H.out.up);have N:=Ry aC;clear X O a5 HS aC;go_upto_region 21 with fail
   generalize wr.setCell ⟨w.heap.size,1,none⟩ (ι ((k:Int)+1))=w1 at *;clear mc mf x H;obtain⟨D,hD⟩:=I.out;have aG:=Ry (bm.out w1 s w.heap.size C L D (k+1) HU.out hD (by omega) (by omega));have an:Hid (∃D,Sq t (zo cs) (L++xM L (k+1) (yt t cs s) []) D):=⟨_,aY.out L D s (k+1) hD⟩;have aE:=bp.out _ _ (aY.out L D s (k+1) hD);rw[yC] at aE;clear hD I;generalize xM L (k+1) (yt t cs s) []=o at *;go_upto_region 22 with (first|(go_at_call 125;refine aG.out.mono ?_;rintro e w2 ⟨bw,rfl,aA,aW⟩))
   have u:=Ry (HU.out.below aW.out);clear aG HU aW;obtain⟨am,T,bb⟩:∃am T,bw=.slice am o.length T:=by
    obtain⟨_,_,q,_⟩:=aA.out;exact zq q
   subst bb;obtain⟨aL,al,bc⟩:∃aL al,C=.slice aL L.length al:=by
    obtain⟨_,_,q,_⟩:=u.out.fl;exact zq q
   subst bc;obtain⟨mc,mf,x⟩:=u.out.box.boxed;go_upto_region 23 with (first|(at_builtin;refine Bg rfl (.tmp 97) (.tmp 98) rfl _ _ _ _ rfl rfl u.out.fl aA.out (by omega) u.out.bel.size ?_;intro v8 w8 aq a7;obtain⟨a0,M,h8⟩:∃a0 M,v8=.slice a0 (L.length+o.length) M:=by{obtain⟨_,_,q,_⟩:=aq;rw[←yC];exact zq q};subst h8;obtain⟨_,_,A,_⟩:=u.out.fl;have a2:=u.out.box.saveT a7 (RL.own A) (by decide);obtain⟨bg,bt,aV⟩:=a2.boxed))
   have ak:=Ry (Te.put (zf _) a2 aq (u.out.bel.trans (a7.below (λb j=>yX A (xb j)) u.out.bel.size)));clear mc mf x bg bt aV a2 A aq a7 u aA;generalize w8.setCell ⟨w.heap.size,0,none⟩ (.slice a0 (L.length+o.length) M)=wN at *;obtain⟨mc,mf,x⟩:=ak.out.box.boxed;rw[yC] at N;by_cases E:L.length+o.length<=mr
   .have bf:¬((mr:Int)<((L.length+o.length:Nat):Int)):=by omega
    have S:=N.out;rw[zb E] at S;by_cases F:o=[]
    .have V:Hid (d=zyk t cs mr mx n (s+1) (k+1) (L++o)):=by rw[Hid,S,zb F]
     have aU:o.length=0:=by rw[F];rfl
     clear F S N aE;have au:Hid (L.length+o.length=(L++o).length):=yC.symm;generalize L.length+o.length=ll at *;generalize o.length=nl at *;subst aU;go_wp2;go_roundg (mx-(k+1))
     case measure=>omega
     exact⟨false,k+1,L++o,_,rfl,λq=>(by cases q),by rw[←au.out];exact E,by omega,ak,an,V⟩
    have V:Hid (d=match z0g t cs mr s (mx-(k+1)) (k+1) (L++o) with|none=>none|some (L',k')=>zyk t cs mr mx n (s+1) k' L'):=by rw[Hid,S,za F,bk.out]
    have aU:(0:Int)<(o.length:Int):=by have:=List.length_pos_iff.2 F;omega
    clear F S N aE;have au:Hid (L.length+o.length=(L++o).length):=yC.symm;generalize L.length+o.length=ll at *;generalize o.length=nl at *;go_wp2;go_roundg (gk-1)
    case measure=>omega
    exact⟨true,k+1,L++o,_,congrArg Value.bool (decide_eq_true (by omega)),λ_=>(by omega),by rw[←au.out];exact E,by omega,ak,an,V⟩
   have bf:((mr:Int)<((L.length+o.length:Nat):Int)):=by omega
   have V:Hid (d=none):=by rw[Hid,N.out,za E]
   generalize L.length+o.length=ll at *;go_wp2;go_ret;unfold pX;rw[V.out];exact⟨rfl,ak.out.bel⟩
  have br:¬(s:Int)<(t.length:Int):=by omega
  obtain rfl:s=t.length:=by omega
  have V:Hid (some (L,k)=d):=by
   have q:=HS.out;rw[jv] at q;exact q
  go_wp2;go_ret;unfold pX;rw[←V.out];exact⟨_,rfl,⟨C,H.out.hmb,H.out.box,H.out.fl⟩,H.out.bel⟩
 have aP:((mr:Int)<(L0.length:Int)):=by omega
 have V:Hid (d=none):=by rw[Hid,P.out,za hq]
 go_wp2;go_ret;unfold pX;rw[V.out];exact⟨rfl,J.out.bel⟩
def LT(w:World)(v:Value):Calls prog 34 #[v,.bool true] w λe a=>e=ε (ν)/\a=w:=by
 go_enter func34,ntmps34;go_wp2;go_ret;exact⟨rfl,rfl⟩
def IZ(w:World)(u v:Value):Calls prog 36 #[u,v,.bool true] w λe a=>e=ε (.bool true)/\a=w:=by
 go_enter func36,ntmps36;go_wp2;go_ret;exact⟨rfl,rfl⟩
def GN(w:World)(u v:Value):Calls prog 75 #[u,v,.bool true] w λe a=>e=ε (.bool true)/\a=w:=by
 go_enter func75,ntmps75;go_wp2;go_ret;exact⟨rfl,rfl⟩
def J2{c:Bool}(w:World)(u v:Value)(a b:Int)(h:a<0∨1048576<a∨b<0∨1048576<b):Calls prog 37 #[u,v,.bool c,ι a,ι b] w λe d=>e=ε (.tuple #[.pointer none,ι 8])/\d=w:=by
 by_cases i:a<0
 .go_enter func37,ntmps37;go_wp2;go_ret2
  exact⟨rfl,rfl⟩
 by_cases j:1048576<a
 .go_enter func37,ntmps37;go_wp2;go_ret2
  exact⟨rfl,rfl⟩
 by_cases g:b<0
 .go_enter func37,ntmps37;go_wp2;go_ret2
  exact⟨rfl,rfl⟩
 have f:1048576<b:=by omega
 go_enter func37,ntmps37;go_wp2;go_ret2
 exact⟨rfl,rfl⟩
def KX(z:Nat->Prop)(w:World)(a:Option (List zC×Nat))(e:Ending)(w':World):Prop:=match a with
 |none=>e=ε (.tuple #[.pointer none,ι 10])/\Hid (μ w w')
 |some (L,k)=>∃b,e=ε (.tuple #[(π b),ι 0])/\Hid (∃c,w.heap.size<=b/\Rz w' b #[c,ι k] 54/\yR z w.heap.size w' c L)/\Hid (μ w w')
end
section
variable {w1:World}
def g7{w:World}{B T n:Nat}{v:Value}{xs:List Value}(h:w.ownsRow B T 1 v n xs)(k:Nat)(f:k<n):∃g a,v=.slice (some ⟨g,0,none⟩) n a/\g<w.heap.size/\∃b:k<xs.length,w.cell? ⟨g,k,none⟩=some xs[k]:=by
 obtain⟨g,a,d,_,c,e⟩:=yw h (by omega);have b:k<xs.length:=by rw[h.1];omega
 exact⟨g,a,d,c,b,e k _ (yi b)⟩
def nL(B:Nat)(own:Sg)(w:World)(p:lR):Prop:=(∃(a:Nat) (s:World),B<=a/\jX a s p.1 p.2.2.1 p.2.2.2/\ka a s p.2.1 p.2.2.1 p.2.2.2/\sR p.2.2.1 p.2.2.2/\SC a s w/\s.heap.size<=w.heap.size/\∀b,a<=b->b<s.heap.size->own b=(0,0))/\∃x,ur x=.ok (p.2.2.1,p.2.2.2)
structure RsP (z:Nat->Prop) (w:World) (x m pm:Nat) (cs:List zd) (t:List zg) (lo lp:Nat) (R:zu) (L:List zC) (k:Nat) (pv nv rv fv cv nmv kv:Value) (tbs:List Nat):Prop where
 res:kB lo lp w x t (zo cs) R pv nv rv tbs
 far:¬z x/\¬z m/\¬z pm
 fars:∀v,v=pv∨v=nv∨v=rv∨v=fv->∀b,v.ownBlock=some b->¬z b
 fart:∀p (_:p<R.rows.length) (_:p<tbs.length),∃fp,ya lo w tbs[p] R.rows[p] fp/\∀b∈fp,¬z b
 told:Sk t (zo cs) R
 rep:Sq t (zo cs) L (zxx (t.map (·.ji)) R)
 cnt:L.length=R.count/\k=R.qx/\0<=R.jg
 model:Rz w m #[fv,ι k] 54
 fl:yR z 0 w fv L
 few:L.length<=1048576
 ctx:ul cs t
 prog:Rz w pm #[cv,nmv,kv] 45
 names:SA z w nmv (R4 t)
abbrev lS:=Nat×Nat×Nat×List zd×List zg
def TK(own:Sg)(w:World)(r:lS):Prop:=∃j f R L k g c d i h b e a,RsP (xI own) w r.1 r.2.1 r.2.2.1 r.2.2.2.1 r.2.2.2.2 j f R L k g c d i h b e a
section
variable {B:Nat} {own own':Sg} {w w':World} {N:List Nat}
def nL.keep{p:lR}(h:nL B own w p)(e:zc N w w')(l:∀b∈N,xI own b)(f:∀b,b<w.heap.size->own b=(0,0)->own' b=(0,0)):nL B own' w' p:=by
 obtain⟨⟨r,s,o,n,q,k,j,i,d⟩,m⟩:=h;exact⟨⟨r,s,o,n,q,k,λb c a=>(e.block b (by omega) λg=>l b g (d b c a)).trans (j b c a),zZ i e.size,λb c a=>f b (by omega) (d b c a)⟩,m⟩
def nL.new{lo pb a:Nat}{cs:List zd}{t:List zg}(c:B<=lo)(f:jX lo w pb cs t)(h:ka lo w a cs t)(d:sR cs t)(e:∃x,ur x=.ok (cs,t))(g:∀b,lo<=b->own b=(0,0)):nL B own w (pb,a,cs,t):=
 ⟨⟨lo,w,c,f,h,d,λ_ _ _=>rfl,zf _,λb q _=>g b q⟩,e⟩
def TK.keep{r:lS}(h:TK own w r)(t:zc N w w')(J:∀b∈N,xI own b)(S:∀b,b<w.heap.size->own b=(0,0)->own' b=(0,0)):TK own' w' r:=by
 obtain⟨I,K,R,L,k,V,W,O,P,Q,x,U,j,h⟩:=h;have q:∀b,¬xI own b->b∉N:=λb a c=>a (J b c);have o:∀b,b<w.heap.size->¬xI own b->¬xI own' b:=λb a c d=>c λe=>d (S b a e);have m:∀{g:Nat} {e:TypeId} {s:Nat} {v:Value} {n:Nat} {z:List Value},w.ownsRow g e s v n z->(∀b,v.ownBlock=some b->¬xI own b)->w'.ownsRow g e s v n z/\∀b,v.ownBlock=some b->¬xI own' b:=λa c=>⟨yK a t λb d=>q b (c b d),λb d=>o b (yA a d) (c b d)⟩;have f:=h.res;have A:=m f.preds (h.fars _ (zh rfl));have D:=m f.vals (h.fars _ (ze (zh rfl)));have H:=m f.rows (h.fars _ (ze (ze (zh rfl))));obtain⟨y,T,M,C⟩:=h.fl;have E:=m M (h.fars _ (ze (ze (ze rfl))));have G:∀p (_:p<R.rows.length) (_:p<j.length),∃l,ya I w' j[p] R.rows[p] l/\∀b∈l,¬xI own' b:=λp a c=>by
  obtain⟨l,u,F⟩:=h.fart p a c;exact⟨l,u.save t λb e=>q b (F b e),λb e=>o b (u.lt b e).2 (F b e)⟩
 have X:=m h.names.1 h.names.2;refine⟨I,K,R,L,k,V,W,O,P,Q,x,U,j,⟨f.low,f.box.save t (q _ h.far.1),A.1,D.1,H.1,f.tlen,λp a c=>?_,f.few⟩,⟨o _ f.box.lt h.far.1,o _ h.model.lt h.far.2.1,o _ h.prog.lt h.far.2.2⟩,?_,G,h.told,h.rep,h.cnt,h.model.save t (q _ h.far.2.1),⟨y,T,E.1,λi a c=>m (C i a c).1 (C i a c).2⟩,h.few,h.ctx,h.prog.save t (q _ h.far.2.2),X⟩;obtain⟨l,u,_⟩:=G p a c;exact⟨l,u⟩;rintro v (rfl|rfl|rfl|rfl);exact A.2;exact D.2;exact H.2;exact E.2
end
abbrev wM:=Nat×Nat×List Int
abbrev iJ:=Option (Nat×Nat×Nat×Nat)
def Ja:iJ->Value
 |none=>ν
 |some (g,f,n,a)=>.slice (some ⟨g,f,none⟩) n (n+a)
def H8(a:List wM):iJ->Prop
 |none=>True
 |some (g,f,n,b)=>∃x∈a,x.1=g/\f+n+b<=x.2.2.length
def FE(a:List wM):List Value:=a.map λx=>sl x.1 x.2.2.length
def E5(a:List wM):List Value:=a.map λx=>sl x.2.1 x.2.2.length
def wP(l:List Int):Array Value:=(l.map (Value.int .i64)).toArray
def l0(rs:List lS):List Value:=rs.flatMap λr=>[.pointer (some ⟨r.1,0,none⟩),.pointer (some ⟨r.2.1,0,none⟩),.pointer (some ⟨r.2.2.1,0,none⟩)]
def ST(x:Int):Prop:=-9223372036854775808<=x/\x<=9223372036854775807
structure yT where
 ps:List lR
 rs:List lS
 row:κ
 ins:List wM
 ord:List iJ
 a:Int
 n:Int
 ex:Int
 nn:Bool
 ls:List rx
 outer:List (Nat×Nat)
 lits:List (Nat×Nat)
def yT.f(M:yT):Nat->Tl
 |0=>some (40,2,M.ps.length,lV M.ps)
 |1=>some (50,3,M.rs.length,l0 M.rs)
 |2=>some (24,1,M.ins.length,FE M.ins)
 |3=>some (24,1,M.ins.length,E5 M.ins)
 |7=>some (24,1,M.ord.length,M.ord.map Ja)
 |9=>some (9,1,M.row.length,M.row.map .string)
 |10=>some (30,1,M.ls.length,mD M.ls)
 |11=>some (30,1,M.ls.length,mu M.ls)
 |12=>some (31,1,M.outer.length,l6 M.outer)
 |13=>some (91,1,M.lits.length,l6 M.lits)
 |_=>none
structure p6 (B:Nat) (own:Sg) (w:World) (M:yT):Prop where
 ints:∀k (h:k<M.ins.length),(own M.ins[k].1=(20,k+1)/\Rz w M.ins[k].1 (wP M.ins[k].2.2) 3)/\(own M.ins[k].2.1=(21,k+1)/\Rz w M.ins[k].2.1 (wP M.ins[k].2.2) 3)/\M.ins[k].2.2.length<=1048576
 win:∀o∈M.ord,H8 M.ins o
 num:ST M.a/\ST M.n/\ST M.ex
 lists:∀k (h:k<M.ls.length),(own M.ls[k].1=(22,k+1)/\R7 B w (sl M.ls[k].1 M.ls[k].2.2.length) M.ls[k].2.2)/\(own M.ls[k].2.1=(23,k+1)/\R7 B w (sl M.ls[k].2.1 M.ls[k].2.2.length) M.ls[k].2.2)/\M.ls[k].2.2.length<=1000
 outer:∀i (h:i<M.outer.length),own M.outer[i].1=(0,0)/\∃hs:List Nat,hs.length=M.outer[i].2/\M.outer[i].2<=1048576/\w.ownsRow B 30 1 (sl M.outer[i].1 M.outer[i].2) M.outer[i].2 (hs.map (uZ (i+1)))/\∀x∈hs,own x=(0,0)/\∃c,Rz w x c 9/\c[0]?=some (.string ByteArray.empty)
 lits:∀i (h:i<M.lits.length),own M.lits[i].1=(0,0)/\∃hs:List Nat,hs.length=M.lits[i].2/\M.lits[i].2<=1000/\w.ownsRow B 90 3 (sl M.lits[i].1 M.lits[i].2) M.lits[i].2 (RQ (hs.map (og i)))
 pairs:∀p∈M.ps,nL B own w p
 ress:∀r∈M.rs,TK own w r
section
variable {B:Nat} {own own':Sg} {w w':World} {N:List Nat} {M:yT}
def p6.keep(h:p6 B own w M)(z:zc N w w')(O:∀b∈N,0<(own b).1/\(own b).1<20)(F:∀b,b<w.heap.size->(own b).1=0∨20<=(own b).1->own' b=own b):p6 B own' w' M:=by
 have v:∀b,b<w.heap.size->own b=(0,0)->own' b=(0,0):=λb q e=>(F b q (zh (by rw[e]))).trans e;have Q:∀b∈N,xI own b:=λb j e=>by have:=(O b j).1;rw[e] at this;cases this
 have q:∀b t,own b=t->t.1=0∨20<=t.1->b∉N:=λb t e a V=>by have:=O b V;rw[e] at this;omega
 have E:∀{b:Nat} {c:Array Value} {T:TypeId} {t:T2},own b=t->t.1=0∨20<=t.1->Rz w b c T->own' b=t/\Rz w' b c T:=λe a j=>⟨(F _ j.lt (by rw[e];exact a)).trans e,j.save z (q _ _ e a)⟩;have A:∀{g n:Nat} {d:Nat} {e:TypeId} {s m:Nat} {L:List Value} {t:T2},own g=t->t.1=0∨20<=t.1->w.ownsRow d e s (sl g n) m L->own' g=t/\w'.ownsRow d e s (sl g n) m L:=λe a R=>⟨(F _ (yA R rfl) (by rw[e];exact a)).trans e,yK R z λb j=>by cases j;exact q _ _ e a⟩;refine⟨λk C=>?_,h.win,h.num,λk C=>?_,λi K=>?_,λi K=>?_,λp U=>(h.pairs p U).keep z Q v,λr W=>(h.ress r W).keep z Q v⟩;obtain⟨⟨f,o⟩,⟨l,J⟩,H⟩:=h.ints k C;exact⟨E f (ze (by simp)) o,E l (ze (by simp)) J,H⟩;obtain⟨⟨u,f⟩,⟨D,l⟩,H⟩:=h.lists k C;exact⟨A u (ze (by simp)) f,A D (ze (by simp)) l,H⟩;obtain⟨u,G,f,o,I,X⟩:=h.outer i K;have y:=A u (zh rfl) I;refine⟨y.1,G,f,o,y.2,λx S=>?_⟩;obtain⟨D,c,l,J⟩:=X x S;have P:=E D (zh rfl) l;exact⟨P.1,c,P.2,J⟩;obtain⟨u,G,f,o,I⟩:=h.lits i K;have y:=A u (zh rfl) I;exact⟨y.1,G,f,o,y.2⟩
end
structure yh (B:Nat) (own:Sg) (w:World) (wb:Nat) (M:yT) (V:Nat->Value):Prop where
 hd:SL B own w wb M.f V
 inn:p6 B own w M
 nums:V 4=ι M.a/\V 5=ι M.n/\V 6=ι M.ex/\V 8=.bool M.nn
section
variable {B:Nat} {own:Sg} {w w' w2:World} {wb:Nat} {M M':yT} {V:Nat->Value}
def yh.below(h:yh B own w wb M V)(a:μ w w'):yh B own w' wb M V:=⟨h.hd.below a,h.inn.keep (zc.of (M:=[]) a) (by simp) (λ_ _ _=>rfl),h.nums⟩
def yh.down(h:yh B own w wb M V)(k:jp own w w'):Below B w w':=by
 obtain⟨N,d,a⟩:=k;exact d.below (λb c=>h.hd.low b (a b c)) h.hd.size
def yh.box(h:yh B own w wb M V):Rz w wb #[V 0,V 1,V 2,V 3,ι M.a,ι M.n,ι M.ex,V 7,.bool M.nn,V 9,V 10,V 11,V 12,V 13] 35:=by
 have:=h.hd.box;obtain⟨a,d,c,b⟩:=h.nums;rw[←a,←d,←c,←b];exact this
def yh.tags(h:yh B own w wb M V)(f:Nat)(d:f<14):∀b∈wb::(V f).ownBlock.toList,(0<(own b).1/\(own b).1<20)/\xI own b:=λb a=>by
 rcases zy.1 a with rfl|a
 .exact⟨by rw[h.hd.tag];decide,by unfold xI;rw[h.hd.tag];decide⟩
 .obtain⟨c,_⟩:=h.hd.tg f b (xb a);exact⟨by rw[c];exact⟨by simp,by simp;omega⟩,by unfold xI;rw[c];simp⟩
def yh.more{own':Sg}(h:yh B own w wb M V)(a:μ w w')(c:∀b,b<w.heap.size->own' b=own b)(d:∀b,w'.heap.size<=b->own' b=(0,0)):yh B own' w' wb M V:=
 ⟨h.hd.gen [] (zc.of (M:=[]) a) (by simp) (h.hd.box.below a) c d (λ_ _=>⟨rfl,rfl⟩) (by simp),h.inn.keep (zc.of (M:=[]) a) (by simp) (λb q _=>c b q),h.nums⟩
def yh.save{N:List Nat}(h:yh B own w wb M V)(a:zc N w w')(c:∀b∈N,own b=(19,1)):yh B own w' wb M V:=
 ⟨h.hd.gen [] a (λb d=>ze (ze (by rw[c b d];simp))) (h.hd.box.save a λe=>by have:=c _ e;rw[h.hd.tag] at this;cases this) (λ_ _=>rfl) (λb q=>h.hd.new b (zZ a.size q)) (λ_ _=>⟨rfl,rfl⟩) (by simp),h.inn.keep a (λb d=>by rw[c b d];simp) (λ_ _ _=>rfl),h.nums⟩
def yh.retag{own':Sg}(h:yh B own w wb M V)(c:∀b,own b≠(19,1)->own' b=own b):yh B own' w wb M V:=
 have a:=h.hd
 ⟨⟨λb q=>a.low b λe=>q ((c b (by rw[e];decide)).trans e),a.box,(c wb (by rw[a.tag];decide)).trans a.tag,λb q=>(c b (by rw[a.new b q];decide)).trans (a.new b q),a.row,λf b q=>⟨(c b (by rw[(a.tg f b q).1];simp)).trans (a.tg f b q).1,(a.tg f b q).2⟩⟩,h.inn.keep (zc.refl [] w) (by simp) (λb _ q=>c b λe=>by rw[e] at q;simp at q),h.nums⟩
def yh.put(h:yh B own w wb M V){f:Nat}(r:f<14){v:Value}(t:∀g,g≠f->M'.f g=M.f g){T:TypeId}{s n:Nat}{xs:List Value}(i:M'.f f=some (T,s,n,xs))(k:w2.ownsRow B T s v n xs)(p:zc (V f).ownBlock.toList w w2)(d:v.ownBlock=(V f).ownBlock∨v.ownBlock=none∨∃g,v.ownBlock=some g/\w.heap.size<=g)(l:kt V f v 4=ι M'.a/\kt V f v 5=ι M'.n/\kt V f v 6=ι M'.ex/\kt V f v 8=.bool M'.nn)
  (m:∀own' w',p6 B own' w' M->zc (wb::(V f).ownBlock.toList) w w'->(∀b,b<w.heap.size->own' b=own b)->p6 B own' w' M'):
  (∃own',yh B own' (w2.setCell ⟨wb,f,none⟩ v) wb M' (kt V f v)/\∀b,b<w.heap.size->own' b=own b)/\jp own w (w2.setCell ⟨wb,f,none⟩ v)/\zc (wb::(V f).ownBlock.toList) w (w2.setCell ⟨wb,f,none⟩ v):=by
 have j:=h.tags f r;obtain⟨x,c,e⟩:=h.hd.put (F':=M'.f) (v:=v) t (λA y z o q=>by rw[i] at q;cases q;exact k) p (λb a=>by
  rcases d with q|q|⟨g,q,u⟩;exact zh (q ▸ a);rw[q] at a;cases a;have:=yA k a;rw[q] at a;cases a;exact ze ⟨u,this⟩)
 exact⟨⟨_,⟨x,m _ _ (h.inn.keep c (λb a=>(j b a).1) λb q _=>e b q) c e,l⟩,e⟩,⟨_,c,λb a=>(j b a).2⟩,c⟩
end
structure nt (M M':yT):Prop where
 ps:M'.ps.length<=M.ps.length+1
 rs:M'.rs.length<=M.rs.length+1
 row:M'.row.length<=M.row.length+1
 ins:M'.ins.length<=M.ins.length+1
 ord:M'.ord.length<=M.ord.length+1
 ls:M'.ls.length<=M.ls.length+1048576
 outer:M'.outer.length<=M.outer.length+1
 lits:M'.lits.length<=M.lits.length+1
 nn:M'.nn=M.nn
def nt.refl(M:yT):nt M M:=⟨by omega,by omega,by omega,by omega,by omega,by omega,by omega,by omega,rfl⟩
def RE(B:Nat)(own:Sg)(w:World)(wb:Nat)(M:yT)(e:Ending)(w':World):Prop:=e=ε (.bool true)/\Hid (∃own' M' a,yh B own' w' wb M' a/\nt M M'/\∀b,b<w.heap.size->own' b=own b)/\Hid (jp own w w')
def RE.kept{B:Nat}{own:Sg}{w:World}{wb:Nat}{M:yT}{V:Nat->Value}(h:yh B own w wb M V)(a:μ w w1):RE B own w wb M (ε (.bool true)) w1:=⟨rfl,⟨own,M,V,h.below a,nt.refl M,λ_ _=>rfl⟩,jp.of a⟩
def RE.from{B:Nat}{own:Sg}{w a:World}{wb:Nat}{M:yT}{e:Ending}(c:μ w a)(h:RE B own a wb M e w1):RE B own w wb M e w1:=by
 obtain⟨i,⟨own',M',k,j,g,f⟩,d⟩:=h;exact⟨i,⟨own',M',k,j,g,λb q=>f b (yE q c.size)⟩,(jp.of (own:=own) c).trans d λ_ _=>rfl⟩
def RE.more{B:Nat}{own:Sg}{w w2:World}{wb:Nat}{M:yT}{e:Ending}(h:RE B own w wb M e w1)(a:μ w1 w2):RE B own w wb M e w2:=by
 obtain⟨g,⟨own',M',j,i,f,d⟩,N,c,b⟩:=h;exact⟨g,⟨own',M',j,i.below a,f,d⟩,N,c.newer (zc.of (M:=[]) a) (by simp),b⟩
end
section
open Go.Proofs.Tryz
def P2{O B:Nat}{own:Sg}{w:World}{wb:Nat}{M:yT}{V:Nat->Value}(h:yh B own w wb M V){g:Nat}{l:κ}{vb:Value}(Y:own g=(22,M.ls.length+1))(J:R7 B w (sl g l.length) l)(r:R7 O w vb l)(hl:l.length<=1000)(hn:M.ls.length<=2000000000000):
  Calls prog 41 #[(π wb),sl g l.length,vb] w λe H=>e=ε (.bool true)/\Hid (∃a V' u,yh B a H wb {M with ls:=M.ls++[(g,u,l)]} V'/\∀b,b<w.heap.size->a b=own b)/\Hid (∃N,zc N w H/\∀b∈N,own b=(1,0)∨own b=(12,0)∨own b=(13,0)):=by
 have U:w.ownsRow B 30 1 (V 10) M.ls.length (mD M.ls):=h.hd.row 10 _ _ _ _ rfl;have P:w.ownsRow B 30 1 (V 11) M.ls.length (mu M.ls):=h.hd.row 11 _ _ _ _ rfl;have y:=h.hd.tg 10;have x:=h.hd.tg 11;have hB:=h.hd.size;refine(JK B w wb (V 0) (V 1) (V 2) (V 3) _ _ _ (V 7) _ (V 9) (V 10) (V 11) (V 12) (V 13) M.ls.length _ _ g l vb h.box U P h.hd.wlow (λb q1 q2=>by have:=(y b q1).1;rw[(x b q2).1] at this;cases this) J r hl hn).mono λe H ⟨he,d,c,u,G,p,t,aa,j,R,K,F,o⟩=>?_;have hs:=o.size;have ab:u<H.heap.size:=yA j rfl;have hN:∀b∈wb::((V 10).ownBlock.toList++(V 11).ownBlock.toList),b=wb∨(∃f∈[10,11],(V f).ownBlock=some b)∨(own b).2≠0:=λb r=>by
  rcases zy.1 r with e|e;exact zh e;rcases zW.1 e with e|e;exact ze (zh ⟨10,by simp,xb e⟩);exact ze (zh ⟨11,by simp,xb e⟩)
 have v:∀b∈wb::((V 10).ownBlock.toList++(V 11).ownBlock.toList),own b=(1,0)∨own b=(12,0)∨own b=(13,0):=λb r=>by
  rcases zy.1 r with rfl|e;exact zh h.hd.tag;rcases zW.1 e with e|e;exact ze (zh (y b (xb e)).1);exact ze (ze (x b (xb e)).1)
 have L:∀b,d.ownBlock=some b->own b=(12,0)∨w.heap.size<=b:=λb q=>by
  rcases R with e|⟨g1,e,m⟩;exact zh (y b (e ▸ q)).1;rw[e] at q;cases q;exact ze m
 have W:∀b,c.ownBlock=some b->own b=(13,0)∨w.heap.size<=b:=λb q=>by
  rcases K with e|⟨g1,e,m⟩;exact zh (x b (e ▸ q)).1;rw[e] at q;cases q;exact ze m
 have D:d.ownBlock≠some u:=λq=>m7 j p (by decide) rfl q;have E:c.ownBlock≠some u:=λq=>m7 j t (by decide) rfl q;obtain⟨a,i⟩:∃a:Sg,∀b,a b=if c.ownBlock=some b then(13,0) else if d.ownBlock=some b then(12,0) else if u=b then(23,M.ls.length+1) else own b:=⟨_,λ_=>rfl⟩
 have I:∀b,b<w.heap.size->a b=own b:=λb q=>by
  rw[i];split;rename_i e;rcases W b e with m|m;exact m.symm;omega;split;rename_i e;rcases L b e with m|m;exact m.symm;omega;rw[za (by omega)]
 have Q:a u=(23,M.ls.length+1):=by rw[i,za E,za D,zb rfl]
 have Z:=h.inn.keep o (λb r=>by rcases v b r with q|q|q<;>rw[q]<;>simp) λb q _=>I b q;have X:g<w.heap.size:=yA J rfl;have S:g∉wb::((V 10).ownBlock.toList++(V 11).ownBlock.toList):=λhm=>by rcases v g hm with q|q|q<;>rw[Y] at q<;>simp at q
 refine⟨he,⟨a,λf=>if f=10 then d else if f=11 then c else V f,u,⟨h.hd.gen [10,11] o hN ?_ I (λb q=>?_) (λf A=>?_) (λf A=>?_),{Z with lists:=λk hk=>?_},h.nums⟩,I⟩,⟨_,o,v⟩⟩;obtain⟨e1,m,e3,e4⟩:=h.nums;rw[←e1,←m,←e3,←e4] at G;exact G;rw[i,za (λe=>by have:=yA t e;omega),za (λe=>by have:=yA p e;omega),za (by omega)];exact h.hd.new b (by omega);simp at A;refine⟨by simp[A.1,A.2],?_⟩;unfold yT.f;split<;>first|rfl|omega
 simp at A;rcases A with rfl|rfl;refine⟨λT s n xs q=>?_,λb q=>?_⟩;cases q;simpa [mD,sl] using p;have z:d.ownBlock=some b:=q;exact⟨by rw[i,za (F b z),zb z],yA p z⟩;refine⟨λT s n xs q=>?_,λb q=>?_⟩;cases q;simpa [mu,sl] using t;have z:c.ownBlock=some b:=q;exact⟨by rw[i,zb z],yA t z⟩;by_cases C:k<M.ls.length;have:=Z.lists k C;simp only[uD C];exact this;obtain rfl:k=M.ls.length:=by simp at hk;omega
 simp only[nK];exact⟨⟨(I g X).trans Y,yK J o λb r=>by cases r;exact S⟩,⟨Q,yk j hB⟩,hl⟩
end
section
open Go.Proofs.Tryz
variable {z:Nat->Prop} {lo:Nat}
section
variable {w:World} {v:Value} {nb:Bool} {pb mr mx:Nat} (hmr:mr<=1048576) (hmx:mx<=1048576)
include hmr hmx
def JC(c:Hid (Calls prog 75 #[(π pb),v,.bool nb] w λe b=>e=ε (.bool false)/\μ w b)):Calls prog 37 #[(π pb),v,.bool nb,ι mr,ι mx] w λe b=>e=ε (.tuple #[.pointer none,ι 9])/\Hid (μ w b):=by
 have h:¬(mr:Int)<0:=by omega
 have i:¬(1048576:Int)<(mr:Int):=by omega
 have f:¬(mx:Int)<0:=by omega
 have d:¬(1048576:Int)<(mx:Int):=by omega
 go_enter func37,ntmps37;go_wp2_with (go_at_call 75;refine c.out.mono ?_;rintro e g ⟨rfl,a⟩)
 go_ret2
 exact⟨rfl,a⟩
def LE(l:Hid (Calls prog 75 #[(π pb),v,.bool nb] w λe b=>e=ε (.bool true)/\μ w b))(c:Option (List zC×Nat))(i:Hid (∀W,μ w W->Calls prog 76 #[(π pb),ι mr,ι mx] W λe b=>pX z W c e b)):Calls prog 37 #[(π pb),v,.bool nb,ι mr,ι mx] w λe b=>KX z w c e b:=by
 have s:¬(mr:Int)<0:=by omega
 have r:¬(1048576:Int)<(mr:Int):=by omega
 have u:¬(mx:Int)<0:=by omega
 have t:¬(1048576:Int)<(mx:Int):=by omega
 rcases c with _|x
 .have d:Hid (∀W,μ w W->Calls prog 76 #[(π pb),ι mr,ι mx] W λe b=>e=ε (.pointer none)/\Hid (μ W b)):=i;clear i;go_enter func37,ntmps37;go_wp2_with (first|(go_at_call 75;refine l.out.mono ?_;rintro e p ⟨rfl,a⟩)|(go_at_call 76;refine(d.out _ a).mono ?_;rintro e m ⟨rfl,f⟩))
  go_ret2
  exact⟨rfl,R5 a f.out⟩
 obtain⟨L,k⟩:=x;have d:Hid (∀W,μ w W->Calls prog 76 #[(π pb),ι mr,ι mx] W λe b=>∃g,e=ε ((π g))/\Hid (∃h,W.heap.size<=g/\Rz b g #[h,ι k] 54/\yR z W.heap.size b h L)/\Hid (μ W b)):=i;clear i;go_enter func37,ntmps37;go_wp2_with (first|(go_at_call 75;refine l.out.mono ?_;rintro e p ⟨rfl,a⟩)|(go_at_call 76;refine(d.out _ a).mono ?_;rintro e m ⟨g,rfl,j,f⟩))
 go_ret2
 obtain⟨h,q,o,n⟩:=j.out;exact⟨g,rfl,⟨h,zZ a.size q,o,n.low a.size⟩,R5 a f.out⟩
end
end
section
open Go.Proofs.Tryz
def QT:(prog.info? 50).map (λi=>(i.zero,i.size,i.bytes))=some (some (.agg #[.pointer none,.pointer none,.pointer none]),3,24):=by kernel_rfl
structure TH (cs:List zd) (t0 t:List zg):Prop where
 parts:RI cs t0 t
 ctx:ul cs t
 len:cs.length<=1000
 names:t.length<=1000
 low:∀c∈cs,xH t c.head.pred<=1000
 body:∀c∈cs,c.body.length<=30
 args:∀c∈cs,∀l∈zm c,l.args.length<=3/\∀a∈l.args,0<a.size
 few:∀L D,Sq t (zo cs) L D->L.length<1000000000000/\∀c∈cs,(yp L c.head c.body c.body []).length<=1000000000000
def LH{x:ByteArray}{cs:List zd}{t:List zg}(h:ur x=.ok (cs,t)):∃g,TH cs g t:=by
 obtain⟨g,b⟩:=CZ h;have m:=Jd h;have j:=ul.of m b;obtain⟨_,e,_⟩:=b.low;have o:=b.few;have k:t.length<=1000:=by omega
 have i:∀c∈cs,eG c:=λc q=>(m c q).fine (b.many c q);refine⟨g,b,j,b.runok.1.len,k,λc d=>?_,λc d=>?_,λc d l e=>⟨(j.lit c d l e).2.2.2,λa n=>(((i c d).1 l e).2.2.2 a n).1⟩,JJ b j k (Mm h)⟩;rw[tG];have:=A6 b.least (ps:=R4 t) (λc d l e=>Du b d e) (Du b d (l:=c.head) (by simp[zm]));simp only[R4,xY] at this;omega;have f:=b.many c d;unfold yM at f;simp only[n8,decide_eq_false_iff_not] at f;have:=f.1.1.1;omega
def MN(g pb:Nat)(t:List zg)(ns:κ)(o:Option (DB×Nat))(w:World)(e:Ending)(w':World):Prop:=match o with
 |none=>e=ε (.tuple #[.pointer none,ι 10])/\Hid (μ w w')
 |some x=>∃c,e=ε (.tuple #[(π c),ι 0])/\Hid (∃R b d f a,kB w.heap.size g w' c t ns R b d f a/\w.cell? ⟨pb,1,none⟩=some b/\Sk t ns R/\zxx (t.map (·.ji)) R=x.1/\R.qx=x.2/\fE x.1 R.count/\R.count<=1048576/\0<=R.jg)/\Hid (μ w w')
def P8{j:Nat}(w:World)(pb:Nat){s:ByteArray}{cs:List zd}{L t:List zg}(n:ur s=.ok (cs,t))(G:jX j w pb cs t)(h:RI cs L t)(k:j<=w.heap.size)(m:Value)(os:Option (List (Option (List Int))))(O:j0 w m os)(l:jK cs os=true)(mr mx:Nat)(q:mr<=1048576)(p:mx<=1048576):
  Calls prog 35 #[(π pb),m,ι mr,ι mx] w λe r=>MN j pb t (zo cs) (zzm (uQ t (zo cs) none cs) mr mx) w e r:=by
 obtain⟨y,b⟩:=h.runos l;have v:∀c∈cs,(zx c).length<=5:=λc n=>dA (h.many c n);have g:=eF l v;have a:=JM h (zo cs) none os (eF rfl v) g (mr:=mr) (mx:=mx);obtain⟨N,z⟩:=MH b (mr:=mr) (mx:=mx) q;obtain⟨f,o,C,M⟩:=z N (zf _);refine(OL w pb cs t m os mr mx N f G O y l q p k o).mono ?_;intro e r d;rcases f with _|R;rw[a,C rfl];exact d;obtain⟨u,P,B⟩:=M R rfl;obtain⟨F,H,K,D,i,A,I,E,x⟩:=d;rw[B] at a;have J:=h.told u rfl a (by omega);rw[a];exact⟨F,I,⟨R,H,K,D,i,E,A,J,rfl,rfl,u.card b.small,by omega,G4 n h os g p o⟩,x⟩
end
def Ej{t:List zg}(d:yz (R4 t))(n:ByteArray):(zU t n).isSome=yu n (R4 t):=by
 cases b:yu n (R4 t);rcases a:zU t n with _|e;rfl;obtain⟨h,g,c⟩:=jj a;have:yu n (R4 t)=true:=vH.2 (zE.2 ⟨e,by rw[←g];exact zt _,c⟩);rw[b] at this;cases this;obtain⟨e,a,rfl⟩:=zE.1 (vH.1 b);obtain⟨p,f,rfl⟩:=qE.1 a;rw[(iw d f).1];rfl
def I1(n:ByteArray)(l:κ)(x:ByteArray):yu n (l++[x])=(yu n l||decide (x=n)):=by
 induction l with
 |nil=>simp[yu]
 |cons a l b=>simp only[hO,yu,b,Bool.or_assoc]
section
open Go.Proofs.Tryz
variable {z:Nat->Prop}
section
variable {lo:Nat} {w w2:World} {v:Value} {rows:List (κ)}
def xx.push{rvs:List Value}(l:rvs.length=rows.length)(f:w.ownsRow lo 30 1 v rows.length rvs)(k:∀i (h:i<rows.length) (f:i<rvs.length),SA z w rvs[i] rows[i]){c v':Value}{row:κ}(j:SA z w c row)(d:zc v.ownBlock.toList w w2)(m:w2.ownsRow lo 30 1 v' (rows.length+1) (rvs++[c])):xx z lo w2 v' (rows++[row]):=by
 have g:RL w 30 v.ownBlock.toList:=RL.own f;refine⟨rvs++[c],by simp[l],by simpa using m,λi a b=>?_⟩;by_cases e:i<rows.length;rw[uD (by omega),uD e];exact(k i e (by omega)).saveT d g (by decide);rw[l5 (by omega),l5 (by omega)];simp only[List.getElem_singleton];exact j.saveT d g (by decide)
def xx.two(h:xx z lo w v rows){k:Nat}(p:k+1<rows.length):∃g d e f n l,v=.slice (some ⟨g,0,none⟩) rows.length d/\lo<=g/\g<w.heap.size/\(∀o,w.frozen? ⟨g,o,none⟩=false)/\w.cell? ⟨g,k+1,none⟩=some (.slice e (rows.getD (k+1) []).length f)/\w.cell? ⟨g,k,none⟩=some (.slice n (rows.getD k []).length l)/\R7 0 w (.slice e (rows.getD (k+1) []).length f) (rows.getD (k+1) [])/\R7 0 w (.slice n (rows.getD k []).length l) (rows.getD k []) ∧
  ∀W,μ w W->xx z lo ((W.setCell ⟨g,k+1,none⟩ (.slice n (rows.getD k []).length l)).setCell ⟨g,k,none⟩ (.slice e (rows.getD (k+1) []).length f)) v ((rows.set (k+1) (rows.getD k [])).set k (rows.getD (k+1) [])):=by
 obtain⟨c,C,r,x⟩:=h;obtain⟨g,d,rfl,H,t,E⟩:=yw r (by omega);rw[R6 [] p,R6 [] (show k<rows.length by omega)];obtain⟨A,_⟩:=x (k+1) p (by omega);obtain⟨D,_⟩:=x k (by omega) (by omega);obtain⟨e,f,y⟩:=A.qy;obtain⟨n,l,u⟩:=D.qy;refine⟨g,d,e,f,n,l,rfl,H,t,uH r,by rw[←y];exact E _ _ (by simp[C,p]),by rw[←u];exact E _ _ (yi _),by rw[←y];exact A,by rw[←u];exact D,λW s=>?_⟩;rw[←y,←u];have F:=uj (zB r s) (k+1) (by omega) c[k];have G:=uj F k (by simp;omega) c[k+1];have J:zc [g] W ((W.setCell ⟨g,k+1,none⟩ c[k]).setCell ⟨g,k,none⟩ c[k+1]):=(zc.set _ _ _ _).trans (zc.set _ _ _ _);have I:RL W 30 [g]:=by have:=RL.own (zB r s);exact this
 refine⟨(c.set (k+1) c[k]).set k c[k+1],by simp[C],by simpa using G,λi a b=>?_⟩;simp only[gx] at a b;have q:∀j (B:j<rows.length) (m:j<c.length),SA z ((W.setCell ⟨g,k+1,none⟩ c[k]).setCell ⟨g,k,none⟩ c[k+1]) c[j] rows[j]:=λj B m=>((x j B m).below s).saveT J I (by decide);simp only[lg];split;exact q (k+1) p (by omega);split;exact q k (by omega) (by omega);exact q i a b
end
def Bs:∀(k:Nat) (l:List (κ)),(jy l k).length=l.length
 |0,l=>rfl
 |k+1,l=>by
  unfold jy;split
  .rw[Bs k];simp
  .rfl
def Gg{P:κ->Prop}:∀(k:Nat) (l:List (κ)),k<l.length->(∀y∈l,P y)->∀y∈jy l k,P y
 |0,l,_,h=>h
 |k+1,l,b,h=>by
  unfold jy;split
  .refine Gg k _ (by simp;omega) λy a=>?_;rw[R6 [] b,R6 [] (show k<l.length by omega)] at a;rcases lz a with q|rfl
   .rcases lz q with q|rfl
    .exact h y q
    .exact h _ (zt _)
   .exact h _ (zt _)
  .exact h
def gm(L:List zC)(n:ByteArray)(i:Nat):List (κ):=hY (L.take i) n
def eZ{L:List zC}{n:ByteArray}{i:Nat}(h:i<L.length):gm L n (i+1)=if L[i].1=n then jy (gm L n i++[L[i].2.1]) (gm L n i).length else gm L n i:=by
 unfold gm hY;rw[yP h,jr];rfl
def FI{L:List zC}{n:ByteArray}:∀i,i<=L.length->(gm L n i).length<=i
 |0,_=>by simp[gm,hY]
 |i+1,h=>by
  rw[eZ h];have:=FI (L:=L) (n:=n) i (by omega);split
  .rw[Bs];simp;omega
  .omega
def DV{L:List zC}{n:ByteArray}{a:Nat}(b:∀f∈L,f.1=n->f.2.1.length=a):∀i,i<=L.length->∀y∈gm L n i,y.length=a
 |0,_=>by simp[gm,hY]
 |i+1,h=>by
  rw[eZ h];have:=DV b i (by omega);split
  .rename_i e;refine Gg _ _ (by simp) λy c=>?_;rcases zW.1 c with q|q
   .exact this y q
   .rw[xC.1 q];exact b _ (zt _) e
  .exact this
def Rp:(prog.info? 30).map (λi=>(i.zero,i.size,i.bytes))=some (some (ν),1,24):=by kernel_rfl
def JE(w:World)(mb rd:Nat)(fv:Value)(L:List zC)(a:ByteArray)(h:Nat)(hm:Rz w mb #[fv,ι rd] 54)(hf:yR z 0 w fv L)(hl:L.length<=1048576)(hk:∀f∈L,f.1=a->f.2.1.length=h)(aJ:h<=1000):
  Calls prog 40 #[(π mb),.string a] w λe t=>∃v,e=.returned v/\Hid (xx z w.heap.size t v (hY L a))/\Hid (μ w t):=by
 obtain⟨i0,az,a9,a4,a6⟩:=info_parts Rp;obtain⟨R,f1,f2,f3⟩:=hf;obtain⟨ao,aN,rfl⟩:=zq f2;have HF:Hid (∀i (s:i<L.length),∃g rv,ao=some ⟨g,0,none⟩/\g<w.heap.size/\w.cell? ⟨g,i*3,none⟩=some (.string L[i].1)/\w.cell? ⟨g,i*3+1,none⟩=some rv/\SA z w rv L[i].2.1):=λi s=>by
  obtain⟨g,aC,Q,_,hg,hc⟩:=yw f2 (by omega);cases Q;refine⟨g,R[i],rfl,hg,hc (i*3) _ ?_,hc (i*3+1) _ ?_,f3 i s (by omega)⟩;rw[show i*3=i*3+0 from rfl,p5 _ _ _ _ s (by omega) (by omega)];rfl;rw[p5 _ _ _ _ s (by omega) (by omega)];rfl
 have HK:=Ry hk;have HA:=Ry λi s=>DV hk i s;have a5:=Ry λi s=>FI (L:=L) (n:=a) i s;clear f1 f2 f3 hk;go_enter func40,ntmps40;go_wp2;go_loopw [5,6,7,8,9,10] (λv5 v6 _ _ _ _ wr=>∃(i:Nat) (lv:Value),i<=L.length/\v6=ι i/\v5=lv/\Hid (xx z w.heap.size wr lv (gm L a i))/\Hid (μ w wr)) (λ_ v6 _ _ _ _ _=>L.length-(intOf v6).toNat);exact⟨0,_,zv _,rfl,rfl,xx.nil _ _,zp _ _⟩;obtain⟨i,lv,s,rfl,aq,HO,C⟩:=hrel;obtain rfl:=aq.symm;have aa:=hm.below C.out;obtain⟨hc,_,aL⟩:=aa.boxed;by_cases N:i<L.length
 .obtain⟨g,rv,au,hg,c0,K,ac⟩:=HF.out i N;subst au;have HS:=Ry (eZ (n:=a) N);have x0:=zl C.out hg c0;have x1:=zl C.out hg K;have aQ:=yE hg C.out.size;have H:=Ry (ac.below C.out);have Z:=Ry (HA.out i s);have aM:=a5.out i s;have I:=Ry (HK.out _ (zt N));clear c0 K ac;obtain⟨ae,D,a0⟩:=H.out.1.qy;subst a0;generalize gm L a i=c at *;by_cases M:L[i].1=a
  .have X:=jF M;have ad:=Ry (I.out M);have an:=Ry (HS.out.trans (zb M));have ay:=C.out.size;obtain⟨B,j,Q⟩:∃B j,lv=.slice B c.length j:=by obtain⟨J,_,q,_⟩:=HO.out;exact zq q
   subst Q;clear I HS M;generalize L[i].1=nm at *;generalize L[i].2.1=row at *;obtain⟨J,ah,ho,am⟩:=HO.out;have ag:=Ry ho;have al:Hid (∀w2 v',zc (Value.ownBlock (.slice B c.length j)).toList wr w2->w2.ownsRow w.heap.size 30 1 v' (c.length+1) (J++[.slice ae row.length D])->xx z w.heap.size w2 v' (c++[row])/\μ w w2):=λw2 v' hS h2=>⟨xx.push ah ho am H.out hS h2,C.out.trans (hS.below (λb E=>yX ho (xb E)) ay)⟩;clear ah am HO ho;go_wp2_with (at_builtin;refine ko wr _ [.slice ae row.length D] _ rfl (.tmp 30) (.tmp 39) 31 rfl w.heap.size 30 i0 _ 1 24 underlying31 az a9 a4 a6 rfl (by decide) (.slice B c.length j) c.length J rfl ag.out (zp _ _) _ _ rfl (by simp) rfl (by simp[Value.oneCell']) (by omega) (by omega) (by omega) ?_;intro v2 w2 F ap ak;obtain⟨aw,T,rfl⟩:=zq F)
   obtain⟨aj,U⟩:=al.out _ _ ap F;have S:=Ry aj;have Y:=Ry U;have V:Hid (∀y∈c++[row],y.length=h):=λy hy=>by
    rcases zW.1 hy with q|q;exact Z.out y q;rw[xC.1 q];exact ad.out
   clear aj U al ag ap F ak Z ad H x0 x1 X hc aa;go_loopw [8,9,10] (λv8 _ _ wq=>∃(k:Nat) (rows:List (κ)),k<=c.length/\v8=ι k/\Hid (rows.length=c.length+1)/\Hid (xx z w.heap.size wq (.slice aw (c.length+1) T) rows)/\Hid (∀y∈rows,y.length=h)/\Hid (jy (c++[row]) c.length=jy rows k)/\Hid (μ w wq)) (λv8 _ _ _=>(intOf v8).toNat);exact⟨c.length,c++[row],zf _,rfl,by simp[Hid],S,V,rfl,Y⟩;clear S Y V;obtain⟨k,rows,aG,rfl,p,r,HW,P,m⟩:=hrel;rcases k with _|k
   .have O:=Ry (an.out.trans P.out);go_wp2;go_roundw;exact⟨i+1,_,by omega,by go_num,rfl,by rw[O.out];exact r.out,m⟩;simp[intOf];omega
   obtain⟨G,cp,o1,K,o2,c2,Q,ab,A,a8,e1,e2,s1,s2,u⟩:=r.out.two (k:=k) (by rw[p.out];omega);have x:=Q;rw[p.out] at x;simp only[Value.slice.injEq] at x;have aA:=x.1;clear Q x;subst aA;have la:(rows.getD (k+1) []).length=h:=HW.out _ (by rw[R6 [] (by rw[p.out];omega)];exact zt _);have lb:(rows.getD k []).length=h:=HW.out _ (by rw[R6 [] (by rw[p.out];omega)];exact zt _);have a7:Hid (∀y∈(rows.set (k+1) (rows.getD k [])).set k (rows.getD (k+1) []),y.length=h):=λy hy=>by
    rcases lz hy with q|rfl;rcases lz q with q|rfl;exact HW.out y q;exact lb;exact la
   have l:Hid (jy (c++[row]) c.length=if yN (rows.getD (k+1) []) (rows.getD k []) then jy ((rows.set (k+1) (rows.getD k [])).set k (rows.getD (k+1) [])) k else rows):=P.out;have a3:Hid (((rows.set (k+1) (rows.getD k [])).set k (rows.getD (k+1) [])).length=c.length+1):=by rw[Hid,gx,gx];exact p.out
   rw[la] at e1 u;rw[lb] at e2 u;have ai:=Ry u;have af:Hid (∀W,μ wr W->Calls prog 81 #[.slice o1 h K,.slice o2 h c2] W λe t=>e=ε (.bool (yN (rows.getD (k+1) []) (rows.getD k [])))/\Hid (μ wr t)/\t.cell? ⟨G,k+1,none⟩=some (.slice o1 h K)/\t.cell? ⟨G,k,none⟩=some (.slice o2 h c2)):=λW E=>by
    have q:=Jb W _ _ _ _ (s1.below E) (s2.below E) (lb.trans la.symm) (by omega);rw[la,lb] at q;refine q.mono ?_;rintro e t ⟨h1,h2⟩;exact⟨h1,R5 E h2,zl (R5 E h2) A e1,zl (R5 E h2) A e2⟩
   clear s1 s2 u la lb HW P;generalize rows.getD (k+1) []=ra at *;generalize rows.getD k []=rb at *;have aD:(k:Int)+1<(c.length:Int)+1:=by omega
   have aK:(k:Int)<(c.length:Int)+1:=by omega
   have aP:((k:Int)+1).toNat=k+1:=by omega
   have aI:(0:Int)<=(k:Int)+1:=by omega
   have aE:IntKind.i64.wrap (((k:Int)+1)-1)=(k:Int):=(IntWalk.i64_in _ (by omega)).trans (by omega);have aO:IntKind.i64.wrap (((k+1:Nat):Int)-1)=(k:Int):=(IntWalk.i64_in _ (by omega)).trans (by omega);have aF:IntKind.i64.wrap (k:Int)=(k:Int):=IntWalk.i64_in _ (by omega);have aH:IntKind.i64.wrap ((k:Int)+1)=(k:Int)+1:=IntWalk.i64_in _ (by omega);go_wp2;go_region_held3 (λt=>t.cell? ⟨G,k+1,none⟩=some (.slice o1 h K)/\t.cell? ⟨G,k,none⟩=some (.slice o2 h c2)) (first|go_keep|(go_simp;done)) (first|(go_at_call 81;refine(af.out _ (by exact(by repeat'(first|with_reducible(first|apply zR|assumption|apply zN|apply zA|apply zD|apply zS)|go_size)))).mono ?_;rintro e w5 ⟨rfl,d,z0,z1⟩))
   have aB:∀o,w5.frozen? ⟨G,o,none⟩=false:=by obtain⟨_,_,q,_⟩:=r.out.below d.out;exact uH q
   have aR:=yE A d.out.size;have a1:=Ry (ai.out w5 d.out);have a2:Hid (μ w ((w5.setCell ⟨G,k+1,none⟩ (.slice o2 h c2)).setCell ⟨G,k,none⟩ (.slice o1 h K))):=((m.out.trans (d.out.mono m.out.size)).setCell ab _).setCell ab _;have ax:=Ry (r.out.below d.out);have ar:=Ry (m.out.trans (d.out.mono m.out.size));clear ai af e1 e2 a8 A r m d;cases ha:yN ra rb
   .rw[ha] at l;have O:=Ry (an.out.trans (l.out.trans (za (by simp))));clear ha l;go_wp2;go_roundw;exact⟨i+1,_,by omega,by go_num,rfl,by rw[O.out];exact ax.out,ar⟩;simp[intOf];omega
   rw[ha] at l;have av:=Ry (l.out.trans (zb rfl));clear ha l;go_wp2;go_roundw;exact⟨k,_,by omega,by go_num,a3,a1,a7,av,a2⟩;simp[intOf]
  have X:=qb M;have O:=Ry (HS.out.trans (za M));clear I HS M;generalize L[i].1=nm at *;go_wp2;go_roundw;exact⟨i+1,_,by omega,by go_num,rfl,by rw[O.out];exact HO.out,C⟩;simp[intOf];omega
 obtain rfl:i=L.length:=by omega
 have O:Hid (gm L a L.length=hY L a):=by unfold Hid gm;rw[uR]
 go_wp2;go_ret;exact⟨_,rfl,by rw[←O.out];exact HO.out,C⟩
end
end Go.Proofs.YteampbddflhngaaGreat
