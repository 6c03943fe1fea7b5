import Derived.Test.YteampbddflhngaaGreatV31
import Derived.Test.YteampbddflhngaaGreatV44
namespace Go.Proofs.YteampbddflhngaaGreat
set_option linter.all false
set_option maxRecDepth 100000
set_option maxHeartbeats 4000000
open Go.Proofs.Tryz Go.RowKit
theorem Bm{lo D:Nat}(w:World)(L E:Value)(a b:List ByteArray)(u:Pg lo w L a)(v:Pg D w E b)(hl:a.length<=1000000)(Q:b.length<=2000000):
  Calls prog 84 #[L,E] w fun e R=>e=.returned (.bool (decide (a=b)))/\Below w.heap.size w R:=by
 obtain⟨ao,U,rfl⟩:=u.qw;obtain⟨S,I,rfl⟩:=v.qw;by_cases d:a.length=b.length
 ·have p:=OY d;rw[←d];clear d;have Y:Hid (∀k,k<a.length->a.getD k ByteArray.empty≠b.getD k ByteArray.empty->decide (a=b)=false):=fun k _ q=>by
   simp only[decide_eq_false_iff_not];rintro rfl;exact q rfl
  have P:Hid ((∀k,k<a.length->a.getD k ByteArray.empty=b.getD k ByteArray.empty)->decide (a=b)=true):=fun q=>by
   simp only[decide_eq_true_eq];refine kJ p.out fun i J W=>?_;have:=q i J;rwa [Ph _ J,Ph _ W] at this
  generalize decide (a=b)=r at *;have X:=OY u;have HB:=OY v;clear u v;go_enter func84,ntmps84;go_wp2;go_loopw [5] (fun i wr=>∃k:Nat,k<=a.length/\i=.int .i64 k/\Hid (∀j,j<k->a.getD j ByteArray.empty=b.getD j ByteArray.empty)/\Below w.heap.size w wr) (fun i _=>a.length-(intOf i).toNat)
  case atStart=>exact⟨0,zv _,rfl,fun j H=>by omega,zo _ _⟩
  case round=>
   obtain⟨k,hk,rfl,F,c⟩:=hrel;have K:=c.size;by_cases f:k<a.length
   ·have l:k<b.length:=by rw[←p.out];exact f
    obtain⟨g,rfl,hg,o⟩:=X.out.cell k f;obtain⟨O,Z,B,h⟩:=HB.out.cell k l;subst Z;have T:=zl c hg o;have M:=zl c B h;have V:g<wr.heap.size:=by omega
    have G:O<wr.heap.size:=by omega
    clear o h;have n:Hid (a.getD k ByteArray.empty=a[k]):=Ph _ f;have t:Hid (b.getD k ByteArray.empty=b[k]):=Ph _ l;by_cases m:a[k]=b[k]
    ·have C:=ka m;have z:=OY m;clear m;generalize a[k]=x at *;generalize b[k]=y at *;go_wp2;go_quiet (fail)
     go_wp2;go_roundw
     case rel=>exact⟨k+1,by omega,by go_num,fun j H=>(by
      by_cases A:j=k
      ·rw[A,n.out,t.out,z.out]
      ·exact F.out j (by omega)),zI c _⟩
     case measure=>simp[intOf];omega
    ·have C:=qz m;have s:=OY (Y.out k f (by rw[n.out,t.out];exact m));clear m;generalize a[k]=x at *;generalize b[k]=y at *;go_wp2;go_quiet (fail)
     go_wp2;go_ret;exact⟨by rw[s.out];rfl,zI c _⟩
   ·have s:=OY (P.out fun j H=>F.out j (by omega));go_wp2;go_ret;exact⟨by rw[s.out];rfl,c⟩
 ·have N:¬(a.length:Int)=(b.length:Int):=by omega
  have s:Hid (decide (a=b)=false):=show decide (a=b)=false by
   simp only[decide_eq_false_iff_not];rintro rfl;exact d rfl
  generalize decide (a=b)=r at *;clear u v d;go_enter func84,ntmps84;go_wp2;go_ret;exact⟨by rw[s.out];rfl,zo _ _⟩
def lZ(w:World)(v:Value)(fs:List z7):Prop:=∃c a,v=.slice c fs.length a/\∀i (h:i<fs.length),∃g b d,c=some ⟨g,0,none⟩/\g<w.heap.size/\w.cell? ⟨g,i*3,none⟩=some (.string fs[i].1)/\w.cell? ⟨g,i*3+1,none⟩=some b/\w.cell? ⟨g,i*3+2,none⟩=some (.int .i64 (fs[i].2.2:Nat))/\Pg d w b fs[i].2.1
theorem lZ.below{w d:World}{v:Value}{fs:List z7}(h:lZ w v fs)(a:Below w.heap.size w d):lZ d v fs:=by
 obtain⟨l,c,m,k⟩:=h;refine⟨l,c,m,fun i e=>?_⟩;obtain⟨g,q,f,o,b,p,r,n,j⟩:=k i e;exact⟨g,q,f,o,xo b a.size,(zl a b p),(zl a b r),(zl a b n),j.below a⟩
theorem e6{J:Nat}(w:World)(s rd:Nat)(v:Value)(fs:List z7)(b:ByteArray)(O:Value)(row:List ByteArray)(K:OZ w s #[v,.int .i64 rd] 54)(h:lZ w v fs)(M:Pg J w O row)(hl:fs.length<=10000000)(F:row.length<=2000000)(A:∀f∈fs,f.2.1.length<=1000000):
  Calls prog 45 #[.pointer (some ⟨s,0,none⟩),.string b,O] w fun e w'=>e=.returned (.int .i64 (jj b row fs))/\Below w.heap.size w w':=by
 have L:=OY fun W lo X (a:List ByteArray) (hb:Below w.heap.size w W) (ha:Pg lo W X a) (hq:a.length<=1000000)=>Bm W X O a row ha (M.below hb) hq F;obtain⟨ab,P,rfl⟩:=M.qw;obtain⟨Z,H,rfl,d⟩:=h;have R:w.cell? ⟨s,0,none⟩=some (.slice Z fs.length H):=by rw[K.rules.1];rfl
 have y:=K.lt;have HC:=OY d;have N:=OY A;have H0:Hid (yC b row fs=(yC b row (fs.drop 0)).map (·+0)):=show yC b row fs=_ by simp
 have S:Hid (jj b row fs=match yC b row fs with|none=>-1|some k=>(k:Int)):=show jj b row fs=_ from rfl
 clear d M A K;generalize jj b row fs=G at *;generalize yC b row fs=o at *;go_enter func45,ntmps45;go_wp2;go_loopw [7,8] (fun i _ wr=>∃k:Nat,k<=fs.length/\i=.int .i64 k/\Hid (o=(yC b row (fs.drop k)).map (·+k))/\Below w.heap.size w wr) (fun i _ _=>fs.length-(intOf i).toNat)
 case atStart=>exact⟨0,zv _,rfl,H0,zo _ _⟩
 case round=>
  obtain⟨k,hk,rfl,E,c⟩:=hrel;have V:=c.size;by_cases l:k<fs.length
  ·have x:(k:Int)<(fs.length:Int):=by omega
   obtain⟨g,rv,D,rfl,Y,U,T,_,Q⟩:=HC.out k l;have xm:=zl c y R;have t:s<wr.heap.size:=by omega
   have q:=E.out;rw[B8 l] at q;have r:=OY q;clear q E;have x0:=zl c Y U;have x1:=zl c Y T;have aa:g<wr.heap.size:=by omega
   have B:=OY (L.out wr D _ _ c (Q.below c) (N.out _ (zu l)));clear U T Q;generalize fs[k].2.1=C at *;generalize fs[k].1=fp at *;by_cases m:fp=b
   ·have I:=ka m;by_cases j:C=row
    ·have u:Hid (o=some k):=show o=some k by rw[r.out,zb ⟨m,j⟩];simp
     have p:=OY (show G=(k:Int) by rw[S.out,u.out]);rw[show decide (C=row)=true by simp[j]] at B;clear r m j;go_wp2_with (first|(go_at_call 84;refine B.out.mono ?_;rintro e w1 ⟨rfl,n⟩))
     go_ret;exact⟨by rw[p.out];rfl,Pc c n⟩
    ·have u:Hid (o=(yC b row (fs.drop (k+1))).map (·+(k+1))):=show o=_ by
      rw[r.out,za (fun z=>j z.2),Option.map_map];congr 1;funext z;simp only[Function.comp];omega
     rw[show decide (C=row)=false by simp[j]] at B;clear r m j;go_wp2_with (first|(go_at_call 84;refine B.out.mono ?_;rintro e w1 ⟨rfl,n⟩))
     exact⟨⟨k+1,by omega,by go_num,u,Pc c n⟩,by simp[intOf];omega⟩
   ·have I:=qz m;have u:Hid (o=(yC b row (fs.drop (k+1))).map (·+(k+1))):=show o=_ by
     rw[r.out,za (fun z=>m z.1),Option.map_map];congr 1;funext z;simp only[Function.comp];omega
    clear r m;go_wp2;exact⟨⟨k+1,by omega,by go_num,u,c⟩,by simp[intOf];omega⟩
  ·have x:¬(k:Int)<(fs.length:Int):=by omega
   have xm:=zl c y R;have t:s<wr.heap.size:=by omega
   have p:Hid (G=-1):=show G=-1 by
    rw[S.out,E.out,ui (by omega)];rfl
   go_wp2;go_ret;exact⟨by rw[p.out];rfl,c⟩
def gs(B:y6)(t:ByteArray):Bool:=!zV t||(Po B t).isSome
theorem BN{lo F:Nat}(w:World)(N M:Value)(B:y6)(t:ByteArray)(x:Pg lo w N (xj B))(v:Pg F w M (xP B))(hl:B.length<=1000)(Q:0<t.size):
  Calls prog 211 #[.agg #[N,M],.string t] w fun e A=>e=.returned (.tuple #[.string (yc B t),.bool (gs B t)])/\Hid (Below w.heap.size w A):=by
 have i:Hid (∀W,Calls prog 154 #[.string t] W fun e A=>e=.returned (.bool (zV t))/\A=W):=fun W=>tB t W Q;have I:(xj B).length=B.length:=by simp[xj]
 have K:(xP B).length=B.length:=by simp[xP]
 obtain⟨f,c,rfl⟩:=x.qw;obtain⟨h,b,rfl⟩:=v.qw;rw[I] at x ⊢;rw[K] at v ⊢;have u:Hid (∀W k (o:k<B.length),Below w.heap.size w W->∃g,f=some ⟨g,0,none⟩/\g<W.heap.size/\W.cell? ⟨g,k,none⟩=some (.string B[k].1)):=fun W k o J=>by
  obtain⟨g,L,G,D⟩:=(x.below J).cell k (by rw[I];exact o);exact⟨g,L,G,by rw[D];simp[xj]⟩
 have s:Hid (∀W k (o:k<B.length),Below w.heap.size w W->∃g,h=some ⟨g,0,none⟩/\g<W.heap.size/\W.cell? ⟨g,k,none⟩=some (.string B[k].2)):=fun W k o J=>by
  obtain⟨g,L,G,D⟩:=(v.below J).cell k (by rw[K];exact o);exact⟨g,L,G,by rw[D];simp[xP]⟩
 clear x v I K;cases p:zV t with
 |false=>
  rw[p] at i;have j:Hid (yc B t=t/\gs B t=true):=by unfold Hid yc gs;rw[p];simp
  clear p u s;go_enter func211,ntmps211;go_wp2_with (first|(go_at_call 154;refine(i.out _).mono ?_;rintro e V ⟨rfl,l⟩;obtain rfl:=l.symm))
  go_ret2
  exact⟨by rw[j.out.1,j.out.2];rfl,(zo _ _).alloc (zh _) _⟩
 |true=>
  rw[p] at i;have j:Hid (yc B t=(Po B t).getD ByteArray.empty/\gs B t=(Po B t).isSome):=by unfold Hid yc gs;rw[p];simp
  clear p;go_enter func211,ntmps211;go_wp2_with (first|(go_at_call 154;refine(i.out _).mono ?_;rintro e V ⟨rfl,l⟩;obtain rfl:=l.symm))
  have d:Hid (Below w.heap.size w (w.alloc (.cells #[.slice f B.length c,.slice h B.length b] 270))):=(zo _ _).alloc (zh _) _;have r:=OZ.new w #[.slice f B.length c,.slice h B.length b] 270;obtain⟨Z,hf,O⟩:=r.boxed;clear r;generalize E:w.alloc (.cells #[.slice f B.length c,.slice h B.length b] 270)=U at *;clear E;go_loopw [7] (fun z wr=>∃k:Nat,k<=B.length/\z=.int .i64 k/\Hid (Po B t=Po (B.drop k) t)/\wr=U) (fun z _=>B.length-(intOf z).toNat)
  case atStart=>exact⟨0,zv _,rfl,rfl,rfl⟩
  case round=>
   obtain⟨k,o,rfl,H,C⟩:=hrel;obtain rfl:=C.symm;by_cases m:k<B.length
   ·have y:(k:Int)<(B.length:Int):=by omega
    obtain⟨g1,rfl,X,c1⟩:=u.out _ k m d.out;obtain⟨Y,rfl,R,c2⟩:=s.out _ k m d.out;have q:=I2 m t;by_cases n:B[k].1=t
    ·have S:=ka n;rw[zb n] at q;have a:Hid (yc B t=B[k].2/\gs B t=true):=by rw[Hid,j.out.1,j.out.2,H.out,q];exact⟨rfl,rfl⟩
     clear n q H j;generalize B[k].1=T at *;generalize B[k].2=x2 at *;go_wp2;go_ret2
     exact⟨by rw[a.out.1,a.out.2];rfl,d⟩
    ·have S:=qz n;rw[za n] at q;have P:Hid (Po B t=Po (B.drop (k+1)) t):=by rw[Hid,H.out,q]
     clear n q H;generalize B[k].1=T at *;go_wp2;go_roundw
     case rel=>exact⟨k+1,by omega,by go_num,P,trivial⟩
     case measure=>simp[intOf];omega
   ·have y:¬(k:Int)<(B.length:Int):=by omega
    have a:Hid (yc B t=ByteArray.empty/\gs B t=false):=by
     rw[Hid,j.out.1,j.out.2,H.out,ui (by omega)];exact⟨rfl,rfl⟩
    clear H j;go_wp2;go_ret2
    exact⟨by rw[a.out.1,a.out.2];rfl,d⟩
theorem J8{lo U D:Nat}(w:World)(h f av:Value)(B:y6)(args:List ByteArray)(h1:Pg lo w h (xj B))(h2:Pg U w f (xP B))(X:Pg D w av args)(hl:B.length<=1000)(ha:args.length<=1000)(E:∀a∈args,0<a.size):
  Calls prog 195 #[.agg #[h,f],av] w fun e b=>∃v,e=.returned v/\Hid (Pg w.heap.size b v (yB B args))/\Hid (Below w.heap.size w b):=by
 obtain⟨i0,hi,K,H,J⟩:=info_parts O4;have T:=OY fun W t r G=>BN W h f B t (h1.below r) (h2.below r) hl G;obtain⟨ao,ae,rfl⟩:=X.qw;have HA:Hid (∀W k (M:k<args.length),Below w.heap.size w W->∃g,ao=some ⟨g,0,none⟩/\g<W.heap.size/\W.cell? ⟨g,k,none⟩=some (.string args[k])):=fun W k M r=>(X.below r).cell k M;clear h1 h2 X;go_enter func195,ntmps195;go_wp2;have u:Hid (Below w.heap.size w (w.alloc (.cells #[h,f] 270))):=(zo _ _).alloc (zh _) _;have l:=OZ.new w #[h,f] 270;have R:=OY l;have ab:=l.lt;clear l;generalize Q:w.alloc (.cells #[h,f] 270)=A at *;clear Q;go_loopw [5,6] (fun v5 F wr=>∃k:Nat,k<=args.length/\F=.int .i64 k/\wr.ownsRow A.heap.size 9 1 v5 k ((yB B (args.take k)).map Value.string)/\Hid (Below A.heap.size A wr)) (fun _ F _=>args.length-(intOf F).toNat)
 case atStart=>exact⟨0,zv _,rfl,yK _ _ _ _,zo _ _⟩
 case round=>
  obtain⟨k,M,rfl,d,i⟩:=hrel;obtain⟨af,Y,rfl⟩:=zq d;have n:=OY (Pc u.out (i.out));have aa:=i.out.size;by_cases m:k<args.length
  ·have C:(k:Int)<(args.length:Int):=by omega
   obtain⟨g,rfl,hg,s⟩:=HA.out _ k m n.out;have G:=E _ (zu m);have c:=(R.out.below i.out);obtain⟨hc,hf,Z⟩:=c.boxed;have P:Hid (yB B (args.take (k+1))=yB B (args.take k)++[yc B args[k]]):=by
    unfold Hid yB;rw[yM m,vB];rfl
   have HV:Hid (∀W,Below wr.heap.size wr W->Calls prog 211 #[.agg #[h,f],.string args[k]] W fun e b=>e=.returned (.tuple #[.string (yc B args[k]),.bool (gs B args[k])])/\Hid (Below wr.heap.size wr b)/\b.cell? ⟨g,k,none⟩=some (.string args[k])/\b.cell? ⟨w.heap.size,0,none⟩=some h/\b.cell? ⟨w.heap.size,1,none⟩=some f):=fun W r=>by
    refine(T.out W args[k] (Pc n.out r) G).mono ?_;rintro e b ⟨q1,q2⟩;have o:=Pc r q2.out;have z:=c.below o;exact⟨q1,o,(zl o hg s),by rw[z.rules.1];rfl,by rw[z.rules.1];rfl⟩
   clear c;generalize yc B args[k]=x at *;generalize gs B args[k]=kn at *;generalize args[k]=y at *;go_upto_region 5 with fail
   go_cut [7,8] from 15 to 23 (fun s7 _ wx=>s7=.string x/\Hid (Below wr.heap.size wr wx))
   case first=>
    go_region_held3 (fun b=>b.cell? ⟨g,k,none⟩=some (.string y)/\b.cell? ⟨w.heap.size,0,none⟩=some h/\b.cell? ⟨w.heap.size,1,none⟩=some f) (first|go_keep|(go_simp;done)) (first|(go_at_call 211;refine(HV.out _ (by exact(by repeat'(first|with_reducible(first|apply zR|assumption|apply zN|apply zA|apply zD|apply zS)|go_size)))).mono ?_;rintro e w5 ⟨rfl,I,z0,z1,z2⟩))
    go_wp2;go_meet
    case rel=>exact⟨rfl,I⟩
   case rest=>
    obtain⟨rfl,p⟩:=hcut;have N:=zE d p.out;have ac:=p.out.size;have j:=OY (Pc i.out p.out);clear hc hf s;go_wp2_with (first|(at_builtin;refine jY wc _ _ _ rfl (.tmp 24) (.tmp 26) 30 rfl A.heap.size 9 i0 _ 1 16 underlying30 hi K H J rfl (by decide) _ _ _ rfl N (zo _ _) _ _ rfl (by simp) rfl (by simp[Value.oneCell']) (by omega) (by omega) j.out.size ?_;intro v' w2 O S V L ag ad;clear V L))
    go_roundw
    case rel=>exact⟨k+1,by omega,by go_num,by rw[P.out];simpa using O,j.out.trans S⟩
    case measure=>simp[intOf];omega
  ·have C:¬(k:Int)<(args.length:Int):=by omega
   obtain rfl:k=args.length:=by omega
   go_wp2;go_ret;refine⟨_,rfl,?_,n⟩;have q:=d;rw[uO] at q;have e:(yB B args).length=args.length:=by simp[yB]
   unfold Hid Pg;rw[e];exact yr q (by have:=u.out.size;omega)
end Go.Proofs.YteampbddflhngaaGreat
