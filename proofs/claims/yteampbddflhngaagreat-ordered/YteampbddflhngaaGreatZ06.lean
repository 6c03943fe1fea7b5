import Derived.Deep.RegionLaw
import Derived.Test.YteampbddflhngaaGreatZ03
namespace Go.Proofs.YteampbddflhngaaGreat
set_option linter.all false
set_option maxRecDepth 100000
set_option maxHeartbeats 1000000
open Go.RowKit
section
open Go.Proofs.Tryz
variable {lo:Nat}{l:κ}
theorem la(t:ByteArray)(w:World):
  Calls prog 156 #[.string t] w fun e a=>e=ε (.bool (zO t))/\a=w:=by
 unfold zO;by_cases h:0<t.size
 ·rw[vX h];go_enter func156,ntmps156;go_wp2
  all_goals go_ret
  all_goals go_light
  all_goals exact⟨by simp_all [vO];try omega,rfl⟩
 ·rw[nw h];go_enter func156,ntmps156;go_wp2
  all_goals go_ret
  all_goals go_light
  all_goals exact⟨by simp_all [vO],rfl⟩
theorem QD.cell{w:World}{c:Option Addr}{n cap:Nat}{vs:κ}(h:QD lo w (.slice c n cap) vs)(k:Nat)(i:k<vs.length):∃g,c=some ⟨g,0,none⟩/\g<w.heap.size/\w.cell? ⟨g,k,none⟩=some (.string vs[k]):=by
 have e:=h;obtain⟨g,d,b,_,f,a⟩:=yv e (by omega);simp at b;exact⟨g,b.1,f,a k _ (by simp[i])⟩
def yu:κ->ByteArray->Option Nat
 |[],_=>none
 |y::r,n=>if y=n then some 0 else(yu r n).map (·+1)
def dR(l:κ)(n:ByteArray):Int:=match yu l n with
 |none=>-1
 |some k=>k
theorem fO:∀{l:κ} {n:ByteArray} {k:Nat},yu l n=some k->∃h:k<l.length,l[k]=n
 |[],_,_,h=>by simp[yu] at h
 |y::r,n,k,h=>by
  unfold yu at h;split at h
  ·simp at h;subst h;exact⟨by simp,by simpa⟩
  ·cases a:yu r n with
   |none=>rw[a] at h;simp at h
   |some j=>rw[a] at h;simp at h;subst h;obtain⟨c,b⟩:=fO a;exact⟨by simpa using c,by simpa using b⟩
theorem iG{n:ByteArray}{k:Nat}(b:k<l.length)(a:l[k]≠n):yu (l.drop k) n=(yu (l.drop (k+1)) n).map (·+1):=by rw[xp b,yu,za a]
theorem oo{n:ByteArray}{k:Nat}(b:k<l.length)(a:l[k]=n):yu (l.drop k) n=some 0:=by rw[xp b,yu,zc a]
theorem oU:∀(l:κ) (n:ByteArray),(yu l n).isSome=xf n l
 |[],n=>by rw[ru.2 (by simp)];rfl
 |y::r,n=>by
  unfold yu;by_cases e:y=n
  ·rw[zc e,ka.2 (by simp[e])];rfl
  ·rw[za e,Option.isSome_map,oU r n];cases h:xf n r with
   |true=>exact(ka.2 (pg _ (ka.1 h))).symm
   |false=>exact(ru.2 (by have:=ru.1 h;simp[this,Ne.symm e])).symm
theorem Jd(w:World)(h:Nat)(f:Value)(vs:κ)(t:ByteArray)(b:Q6 w h #[f] 246)(hs:QD lo w f vs)(q:vs.length<=1000):
  Calls prog 200 #[(π h),.string t] w fun e n=>e=ε (.tuple #[ι ((yu vs t).getD 0:Nat),.bool (yu vs t).isSome])/\n=w:=by
 obtain⟨p,s⟩:=b.rules;obtain⟨u,m,rfl⟩:=hs.qx;go_enter func200,ntmps200;go_wp2;go_loop [13] (fun i=>∃k:Nat,k<=vs.length/\i=ι k/\Hid (yu vs t=(yu (vs.drop k) t).map (·+k))) (fun i=>vs.length-(intOf i).toNat)
 case atStart=>exact⟨0,zv _,rfl,by simp[Hid]⟩
 case round=>
  obtain⟨k,v,rfl,H⟩:=hrel;by_cases a:k<vs.length
  ·obtain⟨g,rfl,r,o⟩:=hs.cell k a;by_cases d:vs[k]=t
   ·have j:=gi d;have c:Hid (yu vs t=some k):=by rw[Hid,H.out,oo a d];simp
    go_wp2;go_ret2
    exact⟨by rw[c.out];rfl,rfl⟩
   ·have j:=jz d;have c:Hid (yu vs t=(yu (vs.drop (k+1)) t).map (·+(k+1))):=by
     rw[Hid,H.out,iG a d];cases yu (vs.drop (k+1)) t<;>simp;omega
    go_wp2;go_round
    case rel=>exact⟨k+1,by omega,by go_num,c⟩
    case measure=>simp[intOf];omega
  ·have c:Hid (yu vs t=none):=by rw[Hid,H.out,ue (by omega)];rfl
   go_wp2;go_ret2
   exact⟨by rw[c.out];rfl,rfl⟩
theorem wO(w:World)(c:Nat)(b:Value)(vs:κ)(t:ByteArray)(a:Q6 w c #[b] 246)(hs:QD lo w b vs)(g:vs.length<=1000):
  Calls prog 183 #[(π c),.string t] w fun e d=>e=ε (.bool (xf t vs))/\d=w:=by
 rw[←oU vs t];have f:=Q5 (Jd w c b vs t a hs g);generalize yu vs t=o at *;go_enter func183,ntmps183;go_wp2_with (go_at_call 200;refine f.out.mono ?_;rintro e d ⟨rfl,rfl⟩;clear f)
 go_ret;exact⟨rfl,rfl⟩
end
section
open Go.Proofs.Tryz
variable {lo:Nat}{w:World}{c:Array Value}{vs:κ}{t:ByteArray}
theorem Q6.set{b:Nat}{T:TypeId}(h:Q6 w b c T)(o:Nat)(u:Value):Q6 (w.setCell ⟨b,o,none⟩ u) b (c.setIfInBounds o u) T:=by
 unfold Q6 at *;simp[World.setCell,Array.getElem?_modify,h]
theorem Q6.set_ne{b b':Nat}{T:TypeId}(h:Q6 w b c T)(a:b≠b')(o:Nat)(u:Value):Q6 (w.setCell ⟨b',o,none⟩ u) b c T:=by
 unfold Q6 at *;rw[Below.heap_setCell _ _ _ _ a];exact h
theorem Q6.push{d p:World}{b:Nat}{e T:TypeId}{s:Nat}{v:Value}{n i:Nat}{xs:List Value}(r:d.ownsRow b e s v n xs)(j:e≠T)(h:Q6 d i c T)
  (u:∀k,k<d.heap.size->some k≠v.ownBlock->p.heap[k]?=d.heap[k]?):Q6 p i c T:=by
 have l:=h.lt;unfold Q6 at *;rw[u i l ?_]
 ·exact h
 ·intro g;obtain⟨_,⟨m,_⟩|⟨x,q,o,f,_,a,_⟩⟩:=r
  ·subst m;cases g
  ·subst f;simp only[Value.ownBlock,zt] at g;subst g;rw[h] at a;simp at a;exact j a.2.symm
structure hX (vb:Nat) (w w':World):Prop where
 size:w.heap.size<=w'.heap.size
 box:∀b c T,b≠vb->T≠9->Q6 w b c T->Q6 w' b c T
theorem hX.trans{d:Nat}{a b c:World}(h:hX d a b)(k:hX d b c):hX d a c:=⟨yc h.size k.size,fun x y z f e g=>k.box x y z f e (h.box x y z f e g)⟩
theorem hX.of{a:Nat}{w':World}(h:μ w w'):hX a w w':=⟨h.size,fun _ _ _ _ _ k=>k.below h⟩
def VA(B:Nat)(w:World)(b:Nat)(vs:κ):Prop:=∃a,Q6 w b #[a] 246/\w.ownsRow B 9 1 a vs.length (vs.map Value.string)
theorem VA.below{B:Nat}{w w':World}{b:Nat}{vs:κ}(h:VA B w b vs)(a:μ w w'):VA B w' b vs:=by
 obtain⟨f,d,e⟩:=h;exact⟨f,d.below a,zB e a⟩
theorem Be(vs args:κ)(k:Nat)(a:k<args.length):xn vs (args.take (k+1))=j9 (xn vs (args.take k)) args[k]:=by
 unfold xn;rw[yM a,j7];rfl
theorem E8(a:zO t=true)(b:xf t vs=false):j9 vs t=vs++[t]:=by simp[j9,a,b]
theorem DE(a:zO t=false):j9 vs t=vs:=by simp[j9,a]
theorem Eu(a:xf t vs=true):j9 vs t=vs:=by simp[j9,a]
theorem RK(h w:World)(d:Nat)(vs args:κ)(neg:Bool)(r:ByteArray)(Z:Value)(V:μ h w)(hs:QD lo h Z args)(J:VA h.heap.size w d vs)(R:h.heap.size<=d)(hl:vs.length+args.length<=1000):
  Calls prog 182 #[(π d),.agg #[.bool neg,.string r,Z]] w fun e q=>e=ε (.tuple #[])/\VA h.heap.size q d (xn vs args)/\μ h q/\hX d w q:=by
 obtain⟨i0,hi,G,O,H⟩:=info_parts Qq;obtain⟨ao,P,rfl⟩:=hs.qx;have X:=V.size;go_enter func182,ntmps182;go_wp2;go_loopw [9] (fun i wr=>∃k:Nat,k<=args.length/\i=ι k/\VA h.heap.size wr d (xn vs (args.take k))/\μ h wr/\hX d w wr) (fun i _=>args.length-(intOf i).toNat)
 case atStart=>
  have K:=(zo w.heap.size w).alloc (zg _) (.cells #[.bool neg,.string r,.slice ao args.length P] 90);exact⟨0,zv _,rfl,J.below K,Q9 V K,hX.of K⟩
 case round=>
  obtain⟨k,hk,rfl,o,f,p⟩:=hrel;by_cases D:k<args.length
  ·obtain⟨g,rfl,hg,aa⟩:=(hs.below f).cell k D;have E:=Be vs args k D;have B:=nF (args.take k) vs;have F:(args.take k).length=k:=by simp;omega
   rw[F] at B;clear F;generalize args[k]=t at *;generalize xn vs (args.take k)=n at *;have v:=Q5 E;clear E;cases Y:zO t with
   |false=>
    have s:xn vs (args.take (k+1))=n:=by rw[v.out,DE Y]
    have x:=Q5 s;clear s v;go_wp2_with (go_at_call 156;refine(la _ _).mono ?_;rintro e q ⟨rfl,rfl⟩)
    go_roundw
    case rel=>exact⟨k+1,by omega,by go_num,by rw[x.out];exact o,f,p⟩
    case measure=>simp[intOf];omega
   |true=>
    obtain⟨nv,j,a⟩:=o;obtain⟨ac,U,rfl⟩:=zp a;obtain⟨hc,hf⟩:=j.rules;cases W:xf t n with
    |true=>
     have s:xn vs (args.take (k+1))=n:=by rw[v.out,Eu W]
     have x:=Q5 s;clear s v;go_wp2_with (first|(go_at_call 156;refine(la _ _).mono ?_;rintro e q ⟨rfl,rfl⟩)|(go_at_call 183;refine(wO _ d _ n t j a (by omega)).mono ?_;rintro e q ⟨rfl,rfl⟩))
     go_roundw
     case rel=>exact⟨k+1,by omega,by go_num,by rw[x.out];exact⟨_,j,a⟩,f,p⟩
     case measure=>simp[intOf];omega
    |false=>
     have s:xn vs (args.take (k+1))=n++[t]:=by rw[v.out,E8 Y W]
     have x:=Q5 s;clear s v;go_wp2_with (first|(go_at_call 156;refine(la _ _).mono ?_;rintro e q ⟨rfl,rfl⟩)|(go_at_call 183;refine(wO _ d _ n t j a (by omega)).mono ?_;rintro e q ⟨rfl,rfl⟩)|(at_builtin;refine ks _ _ _ _ rfl (.tmp 25) (.tmp 27) 30 rfl h.heap.size 9 i0 _ 1 16 underlying30 hi G O H rfl (by decide) _ _ _ rfl a (zo _ _) _ _ rfl (by simp) rfl (by simp[Value.oneCell']) (by omega) (by omega) f.size ?_;intro v' L C Q I N A z;clear I N;obtain⟨u,l,rfl⟩:=zp C;have m:=Q6.push a (by decide) j A;obtain⟨ab,ad⟩:=m.rules))
     have M:hX d q (L.setCell ⟨d,0,none⟩ (.slice u (n.length+1) l)):=⟨by simp[World.setCell];exact z,fun b c T h1 h2 h3=>(Q6.push a (Ne.symm h2) h3 A).set_ne h1 _ _⟩;have y:VA h.heap.size (L.setCell ⟨d,0,none⟩ (.slice u (n.length+1) l)) d (n++[t]):=⟨_,m.set 0 _,by
      have:=xO C ((QH.refl d L).setCell 0 (.slice u (n.length+1) l)) m (by decide);simpa using this⟩
     go_roundw
     case rel=>exact⟨k+1,by omega,by go_num,by rw[x.out];exact y,(f.trans Q).setCell R _,p.trans M⟩
     case measure=>simp[intOf];omega
  ·have S:args.take k=args:=xh (by omega);rw[S] at o;clear S;go_wp2;go_end0
   exact⟨rfl,o,f,p⟩
end
section
open Go.Proofs.Tryz
variable {lo:Nat}
theorem Re.cell{w:World}{i:Option Addr}{n cap:Nat}{c:List zj}(h:Re lo w (.slice i n cap) c)(k:Nat)(r:k<c.length):∃g b a,i=some ⟨g,0,none⟩/\g<w.heap.size ∧
  w.cell? ⟨g,k*3,none⟩=some (.bool c[k].neg)/\w.cell? ⟨g,k*3+1,none⟩=some (.string c[k].pred)/\w.cell? ⟨g,k*3+2,none⟩=some (.slice b c[k].args.length a)/\QD lo w (.slice b c[k].args.length a) c[k].args:=by
 obtain⟨t,o,l⟩:=h;obtain⟨g,j,f,_,p,d⟩:=yv o (by omega);simp at f;obtain⟨u,q,s,m,e⟩:=l.at k c[k] (by simp[r]);obtain⟨b,a,rfl⟩:=e.qx;exact⟨g,b,a,f.1,p,d _ _ q,d _ _ s,d _ _ m,e⟩
def kO(vs:κ)(l:zj):κ:=xn vs l.args
def vS(vs:κ)(l:zj):κ:=if l.neg then vs else xn vs l.args
def xM(c:zd):κ:=c.body.foldl kO (xn [] c.head.args)
def zw(c:zd):κ:=c.body.foldl vS []
def yU(a:List zj):Nat:=a.foldr (fun l n=>l.args.length+n) 0
theorem rm(b:List zj):∀k,k<b.length->yU (b.take k)+(b[k]?.map (·.args.length)).getD 0<=yU b:=by
 induction b with
 |nil=>intro k h;simp at h
 |cons a b c=>
  intro k h;cases k with
  |zero=>simp[yU]
  |succ k=>have:=c k (by simpa using h);simp[yU] at this ⊢;omega
theorem Oc(c:List zj)(a:zj):yU (c++[a])=yU c+a.args.length:=by
 induction c with
 |nil=>simp[yU]
 |cons b c d=>simp[yU] at d ⊢;omega
theorem Cp(b:List zj):∀vs:κ,(b.foldl kO vs).length<=vs.length+yU b:=by
 induction b with
 |nil=>intro vs;simp[yU]
 |cons a b c=>intro vs;have:=c (kO vs a);have:=nF a.args vs;simp[yU,kO] at *;omega
theorem tR(b:List zj):∀vs:κ,(b.foldl vS vs).length<=vs.length+yU b:=by
 induction b with
 |nil=>intro vs;simp[yU]
 |cons a b c=>
  intro vs;have d:=c (vS vs a);have f:=nF a.args vs;have e:(vS vs a).length<=vs.length+a.args.length:=by unfold vS;split<;>omega
  simp[yU] at *;omega
theorem MR(w:World)(c:zd)(U V:Value)(hs:QD lo w U c.head.args)(R:Re lo w V c.body)(hl:c.head.args.length+yU c.body<=1000)(ac:c.body.length<=1000):
  Calls prog 145 #[.agg #[.bool c.head.neg,.string c.head.pred,U,V]] w fun e S=>∃M,e=ε (.agg #[M])/\S.ownsRow w.heap.size 9 1 M (xM c).length ((xM c).map Value.string)/\μ w S:=by
 obtain⟨u,h,rfl⟩:=hs.qx;obtain⟨d,b,rfl⟩:=R.qx;have I:μ w (((w.alloc (.cells #[.bool c.head.neg,.string c.head.pred,.slice u c.head.args.length h,.slice d c.body.length b] 171)).alloc (.cells #[ν] 246)).alloc (.cells #[ν] 246)):=(by go_grown);have A:VA w.heap.size (((w.alloc (.cells #[.bool c.head.neg,.string c.head.pred,.slice u c.head.args.length h,.slice d c.body.length b] 171)).alloc (.cells #[ν] 246)).alloc (.cells #[ν] 246)) (w.heap.size+2) []:=⟨_,by have:=Q6.new ((w.alloc (.cells #[.bool c.head.neg,.string c.head.pred,.slice u c.head.args.length h,.slice d c.body.length b] 171)).alloc (.cells #[ν] 246)) #[ν] 246;simpa using this,yC _ _ _ _⟩;have x:Q6 (((w.alloc (.cells #[.bool c.head.neg,.string c.head.pred,.slice u c.head.args.length h,.slice d c.body.length b] 171)).alloc (.cells #[ν] 246)).alloc (.cells #[ν] 246)) (w.heap.size+1) #[ν] 246:=by have:=(Q6.new (w.alloc (.cells #[.bool c.head.neg,.string c.head.pred,.slice u c.head.args.length h,.slice d c.body.length b] 171)) #[ν] 246).below ((zo _ _).alloc (zg _) (.cells #[ν] 246));simpa using this
 have E:Q6 (((w.alloc (.cells #[.bool c.head.neg,.string c.head.pred,.slice u c.head.args.length h,.slice d c.body.length b] 171)).alloc (.cells #[ν] 246)).alloc (.cells #[ν] 246)) w.heap.size #[.bool c.head.neg,.string c.head.pred,.slice u c.head.args.length h,.slice d c.body.length b] 171:=((Q6.new w _ _).below zT).below zT;go_enter func145,ntmps145;go_wp2_with (go_at_call 182;refine(RK w _ (w.heap.size+2) [] c.head.args _ _ _ (by exact I) hs (by exact A) (by omega) (by simp;omega)).mono ?_;rintro e w1 ⟨rfl,j,s,n⟩;have f:=n.box _ _ _ (by omega) (by decide) x;have y:=n.box _ _ _ (by omega) (by decide) E;obtain⟨ae,Y,Q⟩:=y.boxed)
 go_loopw [12] (fun i wr=>∃k:Nat,k<=c.body.length/\i=ι k/\VA w.heap.size wr (w.heap.size+2) ((c.body.take k).foldl kO (xn [] c.head.args))/\μ w wr/\Q6 wr (w.heap.size+1) #[ν] 246) (fun i _=>c.body.length-(intOf i).toNat)
 case atStart=>exact⟨0,zv _,rfl,j,s,f⟩
 case round=>
  obtain⟨k,hk,rfl,r,m,t⟩:=hrel;have T:=m.size;by_cases o:k<c.body.length
  ·obtain⟨g,af,O,rfl,K,G,B,l,H⟩:=R.cell k o;have Z:=zl m K G;have ag:=zl m K B;have aa:=zl m K l;have ab:g<wr.heap.size:=by omega
   have P:=Cp (c.body.take k) (xn [] c.head.args);have C:=rm c.body k o;have J:=nF c.head.args [];have F:(c.body.take (k+1)).foldl kO (xn [] c.head.args)=kO ((c.body.take k).foldl kO (xn [] c.head.args)) c.body[k]:=by rw[yM o,j7];rfl
   rw[yq o] at C;simp only[jy,ur] at C;clear G B l;generalize c.body[k]=a at *;generalize (c.body.take k).foldl kO (xn [] c.head.args)=vk at *;have W:=Q5 F;clear F;go_wp2_with (go_at_call 182;refine(RK w _ (w.heap.size+2) vk a.args _ _ _ (by exact(by go_grown)) H (by exact r.below (by go_grown)) (by omega) (by simp at *;omega)).mono ?_;rintro e w1 ⟨rfl,j,s,n⟩;have f:=n.box _ _ _ (by omega) (by decide) (t.below (by go_grown)))
   go_roundw
   case rel=>exact⟨k+1,by omega,by go_num,by rw[W.out];exact j,s,f⟩
   case measure=>simp[intOf];omega
  ·have N:c.body.take k=c.body:=xh (by omega);rw[N] at r;obtain⟨M,z,q⟩:=r;obtain⟨D,p,rfl⟩:=zp q;obtain⟨hc,hf⟩:=z.rules;obtain⟨l,ad⟩:=t.rules;have X:=z.lt;clear N;go_wp2;have L:=xO q ((QH.refl (w.heap.size+1) wr).setCell 0 (.slice D (c.body.foldl kO (xn [] c.head.args)).length p)) t (by decide);exact zL (v:=.agg #[.slice D (c.body.foldl kO (xn [] c.head.args)).length p]) (by simp[results,results145,go_sem,l]) rfl ⟨_,rfl,L,(by go_grown)⟩
theorem wV(w:World)(c:zd)(X Y:Value)(hs:QD lo w X c.head.args)(T:Re lo w Y c.body)(hl:c.head.args.length+yU c.body<=1000)(ac:c.body.length<=1000):
  Calls prog 148 #[.agg #[.bool c.head.neg,.string c.head.pred,X,Y]] w fun e U=>∃P,e=ε (.agg #[P])/\U.ownsRow w.heap.size 9 1 P (zw c).length ((zw c).map Value.string)/\μ w U:=by
 obtain⟨r,f,rfl⟩:=hs.qx;obtain⟨d,b,rfl⟩:=T.qx;have I:μ w (((w.alloc (.cells #[.bool c.head.neg,.string c.head.pred,.slice r c.head.args.length f,.slice d c.body.length b] 171)).alloc (.cells #[ν] 246)).alloc (.cells #[ν] 246)):=(by go_grown);have x:VA w.heap.size (((w.alloc (.cells #[.bool c.head.neg,.string c.head.pred,.slice r c.head.args.length f,.slice d c.body.length b] 171)).alloc (.cells #[ν] 246)).alloc (.cells #[ν] 246)) (w.heap.size+2) []:=⟨_,by have:=Q6.new ((w.alloc (.cells #[.bool c.head.neg,.string c.head.pred,.slice r c.head.args.length f,.slice d c.body.length b] 171)).alloc (.cells #[ν] 246)) #[ν] 246;simpa using this,yC _ _ _ _⟩;have s:Q6 (((w.alloc (.cells #[.bool c.head.neg,.string c.head.pred,.slice r c.head.args.length f,.slice d c.body.length b] 171)).alloc (.cells #[ν] 246)).alloc (.cells #[ν] 246)) (w.heap.size+1) #[ν] 246:=by have:=(Q6.new (w.alloc (.cells #[.bool c.head.neg,.string c.head.pred,.slice r c.head.args.length f,.slice d c.body.length b] 171)) #[ν] 246).below ((zo _ _).alloc (zg _) (.cells #[ν] 246));simpa using this
 have V:Q6 (((w.alloc (.cells #[.bool c.head.neg,.string c.head.pred,.slice r c.head.args.length f,.slice d c.body.length b] 171)).alloc (.cells #[ν] 246)).alloc (.cells #[ν] 246)) w.heap.size #[.bool c.head.neg,.string c.head.pred,.slice r c.head.args.length f,.slice d c.body.length b] 171:=((Q6.new w _ _).below zT).below zT;go_enter func148,ntmps148;go_wp2;go_loopw [9] (fun i wr=>∃k:Nat,k<=c.body.length/\i=ι k/\VA w.heap.size wr (w.heap.size+2) ((c.body.take k).foldl vS [])/\μ w wr/\Q6 wr (w.heap.size+1) #[ν] 246) (fun i _=>c.body.length-(intOf i).toNat)
 case atStart=>exact⟨0,zv _,rfl,x,I,s⟩
 case round=>
  obtain⟨k,hk,rfl,h,m,l⟩:=hrel;have W:=m.size;by_cases n:k<c.body.length
  ·obtain⟨g,ae,R,rfl,K,E,z,j,H⟩:=T.cell k n;have y:=zl m K E;have af:=zl m K z;have aa:=zl m K j;have ab:g<wr.heap.size:=by omega
   have S:=tR (c.body.take k) [];have A:=rm c.body k n;have J:True:=trivial;have D:(c.body.take (k+1)).foldl vS []=vS ((c.body.take k).foldl vS []) c.body[k]:=by rw[yM n,j7];rfl
   rw[yq n] at A;simp only[jy,ur] at A;clear E z j;generalize c.body[k]=a at *;generalize (c.body.take k).foldl vS []=N at *;have F:=Q5 D;clear D;cases t:a.neg with
   |true=>
    rw[t] at y;have G:Hid ((c.body.take (k+1)).foldl vS []=N):=by rw[Hid,F.out,vS,t,zc rfl]
    clear F t;go_wp2;go_roundw
    case rel=>exact⟨k+1,by omega,by go_num,by rw[G.out];exact h.below (by go_grown),(by go_grown),l.below (by go_grown)⟩
    case measure=>simp[intOf];omega
   |false=>
    rw[t] at y;have G:Hid ((c.body.take (k+1)).foldl vS []=xn N a.args):=by rw[Hid,F.out,vS,t];rfl
    clear F t;go_wp2_with (go_at_call 182;refine(RK w _ (w.heap.size+2) N a.args _ _ _ (by exact(by go_grown)) H (by exact h.below (by go_grown)) (by omega) (by simp at *;omega)).mono ?_;rintro e w1 ⟨rfl,C,L,M⟩;have q:=M.box _ _ _ (by omega) (by decide) (l.below (by go_grown)))
    go_roundw
    case rel=>exact⟨k+1,by omega,by go_num,by rw[G.out];exact C,L,q⟩
    case measure=>simp[intOf];omega
  ·have Q:c.body.take k=c.body:=xh (by omega);rw[Q] at h;obtain⟨P,u,p⟩:=h;obtain⟨B,o,rfl⟩:=zp p;obtain⟨hc,hf⟩:=u.rules;obtain⟨j,ad⟩:=l.rules;have Z:=u.lt;clear Q;go_wp2;have O:=xO p ((QH.refl (w.heap.size+1) wr).setCell 0 (.slice B (c.body.foldl vS []).length o)) l (by decide);exact zL (v:=.agg #[.slice B (c.body.foldl vS []).length o]) (by simp[results,results148,go_sem,j]) rfl ⟨_,rfl,O,(by go_grown)⟩
theorem Si(w:World)(c:Nat)(b:Value)(vs:κ)(a:Q6 w c #[b] 246)(hs:QD lo w b vs):
  Calls prog 146 #[(π c)] w fun e f=>e=ε (ι vs.length)/\f=w:=by
 obtain⟨g,h⟩:=a.rules;obtain⟨i,d,rfl⟩:=hs.qx;go_enter func146,ntmps146;go_wp2;go_ret;exact⟨rfl,rfl⟩
def qE(vs args:κ):Bool:=args.all fun t=>!zO t||xf t vs
theorem oR{α:Type}(l:List α)(p:α->Bool)(k:Nat)(a:k<l.length):(l.drop k).all p=(p l[k]&&(l.drop (k+1)).all p):=by rw[xp a,List.all_cons]
theorem Aa{α:Type}(l:List α)(p:α->Bool)(k:Nat)(a:k<l.length):(l.drop k).any p=(p l[k]||(l.drop (k+1)).any p):=by rw[xp a,List.any_cons]
theorem w9(w:World)(m:Nat)(y:Value)(vs args:κ)(neg:Bool)(c:ByteArray)(v:Value)(l:Q6 w m #[y] 246)(B:QD lo w y vs){n:Nat}(hs:QD n w v args)(r:vs.length<=1000)(C:args.length<=1000):
  Calls prog 149 #[(π m),.agg #[.bool neg,.string c,v]] w fun e f=>e=ε (.bool (qE vs args))/\μ w f:=by
 obtain⟨A,q,rfl⟩:=hs.qx;have b:=(zo w.heap.size w).alloc (zg _) (.cells #[.bool neg,.string c,.slice A args.length q] 90);have a:=l.below b;have h:=B.below b;go_enter func149,ntmps149;go_wp2;go_loop [10] (fun i=>∃k:Nat,k<=args.length/\i=ι k/\Hid (qE vs args=(args.drop k).all fun t=>!zO t||xf t vs)) (fun i=>args.length-(intOf i).toNat)
 case atStart=>exact⟨0,zv _,rfl,rfl⟩
 case round=>
  obtain⟨k,D,rfl,H⟩:=hrel;by_cases j:k<args.length
  ·obtain⟨g,rfl,E,z⟩:=hs.cell k j;have o:=oR args (fun t=>!zO t||xf t vs) k j;generalize args[k]=x at *;have p:Hid (qE vs args=((!zO x||xf x vs)&&(args.drop (k+1)).all fun t=>!zO t||xf t vs)):=by rw[Hid,H.out,o]
   cases u:zO x with
   |false=>
    have d:Hid (qE vs args=(args.drop (k+1)).all fun t=>!zO t||xf t vs):=by rw[Hid,p.out,u];rfl
    go_wp2_with (go_at_call 156;refine(la _ _).mono ?_;rintro e f ⟨rfl,rfl⟩)
    go_round
    case rel=>exact⟨k+1,by omega,by go_num,d⟩
    case measure=>simp[intOf];omega
   |true=>
    cases s:xf x vs with
    |true=>
     have d:Hid (qE vs args=(args.drop (k+1)).all fun t=>!zO t||xf t vs):=by rw[Hid,p.out,s];simp
     go_wp2_with (first|(go_at_call 156;refine(la _ _).mono ?_;rintro e f ⟨rfl,rfl⟩)|(go_at_call 183;refine(wO _ m _ vs x a h r).mono ?_;rintro e f ⟨rfl,rfl⟩))
     go_round
     case rel=>exact⟨k+1,by omega,by go_num,d⟩
     case measure=>simp[intOf];omega
    |false=>
     have d:Hid (qE vs args=false):=by rw[Hid,p.out,s,u];rfl
     go_wp2_with (first|(go_at_call 156;refine(la _ _).mono ?_;rintro e f ⟨rfl,rfl⟩)|(go_at_call 183;refine(wO _ m _ vs x a h r).mono ?_;rintro e f ⟨rfl,rfl⟩))
     go_ret;exact⟨by rw[d.out];rfl,b⟩
  ·have d:Hid (qE vs args=true):=by rw[Hid,H.out,ue (by omega)];rfl
   go_wp2;go_ret;exact⟨by rw[d.out];rfl,b⟩
def yE(c:zd):Bool:=decide (3<c.head.args.length)||decide (6<c.body.length)||c.body.any (fun l=>decide (3<l.args.length))||decide (5<(xM c).length)
def xo(c:zd):Bool:=qE (zw c) c.head.args&&c.body.all fun l=>!l.neg||qE (zw c) l.args
theorem Dn(w:World)(c:zd)(K L:Value)(hs:QD lo w K c.head.args)(E:Re lo w L c.body)(S:c.head.args.length+yU c.body<=1000)(F:c.body.length<=1000):
  Calls prog 101 #[.agg #[.bool c.head.neg,.string c.head.pred,K,L]] w fun e w'=>e=ε (.bool (yE c))/\μ w w':=by
 have f:=fun W G z=>MR (lo:=lo) W c K L G z S F;obtain⟨V,J,rfl⟩:=hs.qx;obtain⟨y,p,rfl⟩:=E.qx;have n:=Q5 f;clear f;by_cases d:3<c.head.args.length∨6<c.body.length
 ·have j:Hid (yE c=true):=by unfold Hid yE;rcases d with d|d<;>simp[d]
  go_enter func101,ntmps101;rcases d with d|d
  ·go_wp2;go_ret;exact⟨by rw[j.out];rfl,(by go_grown)⟩
  ·by_cases Q:3<c.head.args.length
   all_goals
    go_wp2;go_ret;exact⟨by rw[j.out];rfl,(by go_grown)⟩
 ·have Q:¬3<c.head.args.length:=by omega
  have Z:¬6<c.body.length:=by omega
  have j:Hid (yE c=(c.body.any (fun l=>decide (3<l.args.length))||decide (5<(xM c).length))):=by unfold Hid yE;simp[Q,Z]
  clear d;go_enter func101,ntmps101;go_wp2;go_loopw [20] (fun i wr=>∃k:Nat,k<=c.body.length/\i=ι k/\μ w wr/\Q6 wr w.heap.size #[.bool c.head.neg,.string c.head.pred,.slice V c.head.args.length J,.slice y c.body.length p] 171/\Hid (yE c=((c.body.drop k).any (fun l=>decide (3<l.args.length))||decide (5<(xM c).length)))) (fun i _=>c.body.length-(intOf i).toNat)
  case atStart=>exact⟨0,zv _,rfl,(by go_grown),Q6.new _ _ _,j⟩
  case round=>
   obtain⟨k,hk,rfl,b,o,H⟩:=hrel;have R:=b.size;by_cases t:k<c.body.length
   ·obtain⟨g,ab,N,rfl,C,u,r,q,x⟩:=E.cell k t;have U:=zl b C u;have ac:=zl b C r;have X:=zl b C q;have Y:g<wr.heap.size:=by omega
    have s:=Aa c.body (fun l=>decide (3<l.args.length)) k t;clear u r q x;generalize c.body[k]=a at *;have v:Hid (yE c=(decide (3<a.args.length)||(c.body.drop (k+1)).any (fun l=>decide (3<l.args.length))||decide (5<(xM c).length))):=by rw[Hid,H.out,s]
    clear s H j;by_cases O:3<a.args.length
    ·have m:Hid (yE c=true):=by rw[Hid,v.out];simp[O]
     clear v;go_wp2;go_ret;exact⟨by rw[m.out];rfl,(by go_grown)⟩
    ·have m:Hid (yE c=((c.body.drop (k+1)).any (fun l=>decide (3<l.args.length))||decide (5<(xM c).length))):=by rw[Hid,v.out];simp[O]
     clear v;go_wp2;go_roundw
     case rel=>exact⟨k+1,by omega,by go_num,(by go_grown),o.below (by go_grown),m⟩
     case measure=>simp[intOf];omega
   ·have m:Hid (yE c=decide (5<(xM c).length)):=by rw[Hid,H.out,ue (by omega)];simp
    have I:=hs.below b;have A:=E.below b;obtain⟨hc,hf,P⟩:=o.boxed;clear H j;go_wp2_with (first|(go_at_call 145;refine(n.out _ I A).mono ?_;rintro e w1 ⟨nv,rfl,h,D⟩;obtain⟨aa,M,rfl⟩:=zp h;have B:=Q9 b D;have T:=B.size)|(go_at_call 146;refine(Si _ _ _ (xM c) (by exact Q6.new _ _ _) (by exact zB h (by go_grown))).mono ?_;rintro e w2 ⟨rfl,rfl⟩))
    go_ret;exact⟨by rw[m.out];simp;omega,(by go_grown)⟩
theorem Ae(w:World)(c:zd)(va vb:Value)(hs:QD lo w va c.head.args)(U:Re lo w vb c.body)(hl:c.head.args.length+yU c.body<=1000)(ac:c.body.length<=1000):
  Calls prog 103 #[.agg #[.bool c.head.neg,.string c.head.pred,va,vb]] w fun e w'=>e=ε (.bool (xo c))/\μ w w':=by
 have v:=fun W ad Y=>wV (lo:=lo) W c va vb ad Y hl ac;obtain⟨ao,an,rfl⟩:=hs.qx;obtain⟨ah,ae,rfl⟩:=U.qx;have t:=Q5 v;clear v;have r:(zw c).length<=1000:=by have:=tR c.body [];unfold zw;simp at this;omega
 have m:∀k (T:k<c.body.length),c.body[k].args.length<=1000:=fun k T=>by
  have:=rm c.body k T;rw[yq T] at this;simp at this;omega
 have C:=Q5 m;clear m;cases hH:qE (zw c) c.head.args with
 |false=>
  have R:Hid (xo c=false):=by unfold Hid xo;simp[hH]
  go_enter func103,ntmps103;go_wp2_with (first|(go_at_call 148;refine(t.out _ (by exact hs.below (by go_grown)) (by exact U.below (by go_grown))).mono ?_;rintro e w1 ⟨nv,rfl,b,p⟩;obtain⟨E,n,rfl⟩:=zp b;have h:=Q9 zT p;have B:=h.size;have j:=(Q6.new w _ _).below p;obtain⟨aa,ab,O⟩:=j.boxed)|(go_at_call 149;refine(w9 _ _ _ (zw c) c.head.args _ _ _ (by exact Q6.new _ _ _) (by exact zB b (by go_grown)) (by exact(hs.below h).below (by go_grown)) r (by omega)).mono ?_;rintro e w2 ⟨rfl,f⟩;have G:=Q9 (h.alloc B _) f))
  go_ret;exact⟨by rw[R.out];rfl,G⟩
 |true=>
  have R:Hid (xo c=c.body.all fun l=>!l.neg||qE (zw c) l.args):=by unfold Hid xo;simp[hH]
  go_enter func103,ntmps103;go_wp2_with (first|(go_at_call 148;refine(t.out _ (by exact hs.below (by go_grown)) (by exact U.below (by go_grown))).mono ?_;rintro e w1 ⟨nv,rfl,b,p⟩;obtain⟨E,n,rfl⟩:=zp b;have h:=Q9 zT p;have B:=h.size;have j:=(Q6.new w _ _).below p;obtain⟨aa,ab,O⟩:=j.boxed)|(go_at_call 149;refine(w9 _ _ _ (zw c) c.head.args _ _ _ (by exact Q6.new _ _ _) (by exact zB b (by go_grown)) (by exact(hs.below h).below (by go_grown)) r (by omega)).mono ?_;rintro e w2 ⟨rfl,f⟩;have G:=Q9 (h.alloc B _) f;have V:=f.size;simp only[World.size_alloc] at V;have N:=(j.below zT).below f;obtain⟨ai,al,X⟩:=N.boxed;have Q:=(Q6.new w1 _ _).below f;have F:=zB (zB b zT) f))
  go_loopw [15] (fun i wr=>∃k:Nat,k<=c.body.length/\i=ι k/\μ w wr/\Q6 wr w1.heap.size #[.slice E (zw c).length n] 246/\QD 0 wr (.slice E (zw c).length n) (zw c)/\Hid (xo c=(c.body.drop k).all fun l=>!l.neg||qE (zw c) l.args)) (fun i _=>c.body.length-(intOf i).toNat)
  case atStart=>exact⟨0,zv _,rfl,G,Q,yr F (zv _),R⟩
  case round=>
   obtain⟨k,T,rfl,d,q,s,H⟩:=hrel;have ag:=d.size;by_cases I:k<c.body.length
   ·obtain⟨g,am,af,rfl,Z,S,u,y,K⟩:=U.cell k I;have M:=zl d Z S;have ap:=zl d Z u;have aj:=zl d Z y;have ak:g<wr.heap.size:=by omega
    have P:=oR c.body (fun l=>!l.neg||qE (zw c) l.args) k I;have x:=K.below d;have L:=C.out k I;clear S u y K;generalize c.body[k]=a at *;have J:Hid (xo c=((!a.neg||qE (zw c) a.args)&&(c.body.drop (k+1)).all fun l=>!l.neg||qE (zw c) l.args)):=by rw[Hid,H.out,P]
    clear P H R;cases D:a.neg with
    |false=>
     have z:Hid (xo c=(c.body.drop (k+1)).all fun l=>!l.neg||qE (zw c) l.args):=by rw[Hid,J.out,D];rfl
     rw[D] at M;clear J D;go_wp2;go_roundw
     case rel=>exact⟨k+1,by omega,by go_num,(by go_grown),q.below (by go_grown),s.below (by go_grown),z⟩
     case measure=>simp[intOf];omega
    |true=>
     rw[D] at M;cases hC:qE (zw c) a.args with
     |true=>
      have z:Hid (xo c=(c.body.drop (k+1)).all fun l=>!l.neg||qE (zw c) l.args):=by rw[Hid,J.out,hC];simp
      clear J D;go_wp2_with (go_at_call 149;refine(w9 _ _ _ (zw c) a.args _ _ _ (by exact q.below (by go_grown)) (by exact s.below (by go_grown)) (by exact x.below (by go_grown)) r L).mono ?_;rintro e w3 ⟨rfl,A⟩;have o:=Q9 ((zo wr.heap.size wr).alloc (zg _) _) A)
      go_roundw
      case rel=>exact⟨k+1,by omega,by go_num,Q9 d o,q.below o,s.below o,z⟩
      case measure=>simp[intOf];omega
     |false=>
      have z:Hid (xo c=false):=by rw[Hid,J.out,hC,D];rfl
      clear J D;go_wp2_with (go_at_call 149;refine(w9 _ _ _ (zw c) a.args _ _ _ (by exact q.below (by go_grown)) (by exact s.below (by go_grown)) (by exact x.below (by go_grown)) r L).mono ?_;rintro e w3 ⟨rfl,A⟩;have o:=Q9 ((zo wr.heap.size wr).alloc (zg _) _) A)
      go_ret;exact⟨by rw[z.out];rfl,Q9 d o⟩
   ·have z:Hid (xo c=true):=by rw[Hid,H.out,ue (by omega)];rfl
    clear H R;go_wp2;go_ret;exact⟨by rw[z.out];rfl,d⟩
theorem Rh.cell{T:TypeId}{w:World}{f:Option Addr}{n cap:Nat}{cs:List zd}(h:Rh lo T w (.slice f n cap) cs)(k:Nat)(r:k<cs.length):∃g e b c a,f=some ⟨g,0,none⟩/\g<w.heap.size ∧
  w.cell? ⟨g,k*4,none⟩=some (.bool cs[k].head.neg)/\w.cell? ⟨g,k*4+1,none⟩=some (.string cs[k].head.pred)/\w.cell? ⟨g,k*4+2,none⟩=some (.slice e cs[k].head.args.length b) ∧
  w.cell? ⟨g,k*4+3,none⟩=some (.slice c cs[k].body.length a)/\QD lo w (.slice e cs[k].head.args.length b) cs[k].head.args/\Re lo w (.slice c cs[k].body.length a) cs[k].body:=by
 obtain⟨x,p,o⟩:=h;obtain⟨g,l,i,_,u,d⟩:=yv p (by omega);simp at i;obtain⟨y,z,q,s,t,v,m,j⟩:=o.at k cs[k] (by simp[r]);obtain⟨e,b,rfl⟩:=m.qx;obtain⟨c,a,rfl⟩:=j.qx;exact⟨g,e,b,c,a,i.1,u,d _ _ q,d _ _ s,d _ _ t,d _ _ v,m,j⟩
def vR(c:zd):Prop:=c.head.args.length+yU c.body<=1000/\c.body.length<=1000
theorem rn(w:World)(v:Value)(cs:List zd)(n:Rh lo 171 w v cs)(t:∀c∈cs,vR c)(R:cs.length<=1000):
  Calls prog 61 #[v] w fun e K=>e=ε (.bool (cs.any yE))/\μ w K:=by
 obtain⟨T,O,rfl⟩:=n.qx;have y:=Q5 t;go_enter func61,ntmps61;go_wp2;go_loopw [7] (fun i wr=>∃k:Nat,k<=cs.length/\i=ι k/\μ w wr/\Hid (cs.any yE=(cs.drop k).any yE)) (fun i _=>cs.length-(intOf i).toNat)
 case atStart=>exact⟨0,zv _,rfl,zo _ _,rfl⟩
 case round=>
  obtain⟨k,S,rfl,b,H⟩:=hrel;have G:=b.size;by_cases l:k<cs.length
  ·have u:=Aa cs yE k l;obtain⟨g,N,D,L,C,rfl,q,A,z,s,x,r,B⟩:=n.cell k l;have I:=zl b q A;have P:=zl b q z;have J:=zl b q s;have Q:=zl b q x;have d:=r.below b;have f:=B.below b;obtain⟨p,o⟩:=y.out _ (zs l);generalize cs[k]=a at *;have F:Hid (cs.any yE=(yE a||(cs.drop (k+1)).any yE)):=by rw[Hid,H.out,u]
   cases E:yE a with
   |true=>
    have m:Hid (cs.any yE=true):=by rw[Hid,F.out,E];rfl
    go_wp2_with (go_at_call 101;refine(Dn _ a _ _ (by exact d.below (by go_grown)) (by exact f.below (by go_grown)) p o).mono ?_;rintro e M ⟨rfl,j⟩;have h:=Q9 ((zo wr.heap.size wr).alloc (zg _) _) j)
    go_ret;exact⟨by rw[m.out];rfl,Q9 b h⟩
   |false=>
    have m:Hid (cs.any yE=(cs.drop (k+1)).any yE):=by rw[Hid,F.out,E];rfl
    go_wp2_with (go_at_call 101;refine(Dn _ a _ _ (by exact d.below (by go_grown)) (by exact f.below (by go_grown)) p o).mono ?_;rintro e M ⟨rfl,j⟩;have h:=Q9 ((zo wr.heap.size wr).alloc (zg _) _) j)
    go_roundw
    case rel=>exact⟨k+1,by omega,by go_num,Q9 b h,m⟩
    case measure=>simp[intOf];omega
  ·have m:Hid (cs.any yE=false):=by rw[Hid,H.out,ue (by omega)];rfl
   go_wp2;go_ret;exact⟨by rw[m.out];rfl,b⟩
theorem eU(w:World)(v:Value)(cs:List zd)(n:Rh lo 171 w v cs)(t:∀c∈cs,vR c)(R:cs.length<=1000):
  Calls prog 63 #[v] w fun e K=>e=ε (.bool (cs.all xo))/\μ w K:=by
 obtain⟨T,O,rfl⟩:=n.qx;have y:=Q5 t;go_enter func63,ntmps63;go_wp2;go_loopw [7] (fun i wr=>∃k:Nat,k<=cs.length/\i=ι k/\μ w wr/\Hid (cs.all xo=(cs.drop k).all xo)) (fun i _=>cs.length-(intOf i).toNat)
 case atStart=>exact⟨0,zv _,rfl,zo _ _,rfl⟩
 case round=>
  obtain⟨k,S,rfl,b,H⟩:=hrel;have G:=b.size;by_cases l:k<cs.length
  ·have u:=oR cs xo k l;obtain⟨g,N,D,L,C,rfl,q,A,z,s,x,r,B⟩:=n.cell k l;have I:=zl b q A;have P:=zl b q z;have J:=zl b q s;have Q:=zl b q x;have d:=r.below b;have f:=B.below b;obtain⟨p,o⟩:=y.out _ (zs l);generalize cs[k]=a at *;have F:Hid (cs.all xo=(xo a&&(cs.drop (k+1)).all xo)):=by rw[Hid,H.out,u]
   cases E:xo a with
   |false=>
    have m:Hid (cs.all xo=false):=by rw[Hid,F.out,E];rfl
    go_wp2_with (go_at_call 103;refine(Ae _ a _ _ (by exact d.below (by go_grown)) (by exact f.below (by go_grown)) p o).mono ?_;rintro e M ⟨rfl,j⟩;have h:=Q9 ((zo wr.heap.size wr).alloc (zg _) _) j)
    go_ret;exact⟨by rw[m.out];rfl,Q9 b h⟩
   |true=>
    have m:Hid (cs.all xo=(cs.drop (k+1)).all xo):=by rw[Hid,F.out,E];rfl
    go_wp2_with (go_at_call 103;refine(Ae _ a _ _ (by exact d.below (by go_grown)) (by exact f.below (by go_grown)) p o).mono ?_;rintro e M ⟨rfl,j⟩;have h:=Q9 ((zo wr.heap.size wr).alloc (zg _) _) j)
    go_roundw
    case rel=>exact⟨k+1,by omega,by go_num,Q9 b h,m⟩
    case measure=>simp[intOf];omega
  ·have m:Hid (cs.all xo=true):=by rw[Hid,H.out,ue (by omega)];rfl
   go_wp2;go_ret;exact⟨by rw[m.out];rfl,b⟩
end
section
open Go.Proofs.Tryz
structure zh where
 name:ByteArray
 jh:Nat
 qh:Nat
def QY(a b:ByteArray):Bool:=Op.bytesLess a.toList b.toList
def zV:List zh->ByteArray->Nat
 |[],_=>0
 |e::r,n=>if QY e.name n then zV r n+1 else 0
theorem ia:∀(t:List zh) (n:ByteArray),zV t n<=t.length
 |[],_=>zg _
 |e::r,n=>by have:=ia r n;unfold zV;split<;>simp<;>omega
theorem ey:∀(t:List zh) (n:ByteArray) (k:Nat),(∀j (b:j<t.length),j<k->QY t[j].name n=true)->k<=t.length->zV t n=k+zV (t.drop k) n
 |[],n,k,_,a=>by simp at a;subst a;simp
 |e::r,n,0,_,_=>by simp
 |e::r,n,k+1,h,a=>by
  have c:=h 0 (by simp) (by omega);simp at c;have:=ey r n k (fun j b d=>by have:=h (j+1) (by simpa using b) (by omega);simpa using this) (by simpa using a);simp[zV,c];omega
theorem EH(t:List zh)(n:ByteArray)(k:Nat)(h:∀j (c:j<t.length),j<k->QY t[j].name n=true)(b:k<t.length)(a:QY t[k].name n=false):zV t n=k:=by
 rw[ey t n k h (by omega),xp b,zV,a];rfl
theorem BB(t:List zh)(n:ByteArray)(h:∀j (a:j<t.length),QY t[j].name n=true):zV t n=t.length:=by
 rw[ey t n t.length (fun j a _=>h j a) (zg _)];simp[zV]
def xW(t:List zh):List Value:=t.flatMap fun e=>[.string e.name,ι (e.jh:Int),ι (e.qh:Int)]
theorem eF(t:List zh):(xW t).length=t.length*3:=by
 induction t with
 |nil=>rfl
 |cons a t b=>simp[xW] at b ⊢;omega
theorem Et:∀(t:List zh) (k:Nat) (a:k<t.length),(xW t)[k*3]?=some (.string t[k].name)/\(xW t)[k*3+1]?=some (ι (t[k].jh:Int))/\(xW t)[k*3+2]?=some (ι (t[k].qh:Int))
 |[],k,a=>by simp at a
 |e::r,0,_=>by simp[xW]
 |e::r,k+1,a=>by
  have:=Et r k (by simpa using a);simp only[xW,uw] at this ⊢;rw[show(k+1)*3=k*3+1+1+1 from by omega,show k*3+1+1+1+1=k*3+1+1+1+1 from rfl,show k*3+1+1+1+2=k*3+2+1+1+1 from by omega];simpa using this
def TA(B:Nat)(w:World)(tb:Nat)(t:List zh):Prop:=∃a,Q6 w tb #[a] 127/\w.ownsRow B 221 3 a t.length (xW t)
theorem TA.below{B:Nat}{w w':World}{tb:Nat}{t:List zh}(h:TA B w tb t)(a:μ w w'):TA B w' tb t:=by
 obtain⟨b,c,d⟩:=h;exact⟨b,c.below a,zB d a⟩
theorem TA.view{B:Nat}{w:World}{tb:Nat}{t:List zh}(h:TA B w tb t):∃b a,Q6 w tb #[.slice b t.length a] 127/\w.ownsRow B 221 3 (.slice b t.length a) t.length (xW t):=by
 obtain⟨e,d,c⟩:=h;obtain⟨b,a,rfl⟩:=zp c;exact⟨b,a,d,c⟩
theorem kI{B:Nat}{w:World}{c:Option Addr}{n cap:Nat}{t:List zh}(h:w.ownsRow B 221 3 (.slice c n cap) t.length (xW t))(k:Nat)(j:k<t.length):∃g,c=some ⟨g,0,none⟩/\g<w.heap.size/\B<=g ∧
  w.cell? ⟨g,k*3,none⟩=some (.string t[k].name)/\w.cell? ⟨g,k*3+1,none⟩=some (ι (t[k].jh:Int))/\w.cell? ⟨g,k*3+2,none⟩=some (ι (t[k].qh:Int)):=by
 obtain⟨g,d,b,l,f,a⟩:=yv h (by omega);simp at b;obtain⟨i,m,e⟩:=Et t k j;exact⟨g,b.1,f,l,a _ _ i,a _ _ m,a _ _ e⟩
theorem wQ(B:Nat)(w:World)(tb:Nat)(t:List zh)(n:ByteArray)(h:TA B w tb t)(s:t.length<=1000):
  Calls prog 126 #[(π tb),.string n] w fun e p=>e=ε (ι (zV t n))/\p=w:=by
 obtain⟨x,o,l,c⟩:=h.view;obtain⟨r,v⟩:=l.rules;go_enter func126,ntmps126;go_wp2;go_loop [5] (fun i=>∃k:Nat,k<=t.length/\i=ι k/\Hid (∀j (a:j<t.length),j<k->QY t[j].name n=true)) (fun i=>t.length-(intOf i).toNat)
 case atStart=>exact⟨0,zv _,rfl,fun j a h=>by omega⟩
 case round=>
  obtain⟨k,y,rfl,H⟩:=hrel;by_cases b:k<t.length
  ·obtain⟨g,rfl,u,_,q,_,_⟩:=kI c k b;cases f:QY t[k].name n with
   |true=>
    have d:Hid (∀j (a:j<t.length),j<k+1->QY t[j].name n=true):=fun j a h=>by
     rcases dI j k with m|m
     ·exact H.out j a m
     ·obtain rfl:j=k:=by omega
      exact f
    unfold QY at f;go_wp2;go_round
    case rel=>exact⟨k+1,by omega,by go_num,d⟩
    case measure=>simp[intOf];omega
   |false=>
    have d:=Q5 (EH t n k H.out b f);unfold QY at f;go_wp2;go_ret;exact⟨by rw[d.out];rfl,rfl⟩
  ·have d:Hid (zV t n=k):=by
    have:=BB t n (fun j a=>H.out j a (by omega));unfold Hid;omega
   go_wp2;go_ret;exact⟨by rw[d.out];rfl,rfl⟩
end
section
open Go.Proofs.Tryz
variable {xs:List Value}
theorem qT{w:World}{a:Nat}{e:TypeId}{b g n cap m:Nat}(h:w.ownsRow a e b (.slice (some ⟨g,0,none⟩) n cap) m xs)(o:Nat):w.frozen? ⟨g,o,none⟩=false:=by
 obtain⟨_,⟨c,_⟩|⟨j,d,i,c,_,f,_⟩⟩:=h
 ·cases c
 ·simp at c;obtain⟨rfl,_⟩:=c;unfold World.frozen?;rw[f];simp
theorem uZ{w:World}{a:Nat}{e:TypeId}{b g n cap m:Nat}(h:w.ownsRow a e b (.slice (some ⟨g,0,none⟩) n cap) m xs)(j:Nat)(_:j<xs.length)(u:Value):
  (w.setCell ⟨g,j,none⟩ u).ownsRow a e b (.slice (some ⟨g,0,none⟩) n cap) m (xs.set j u):=by
 obtain⟨k,⟨c,_⟩|⟨s,f,d,c,l,q,o,r,p,i⟩⟩:=h
 ·cases c
 ·simp at c;obtain⟨rfl,rfl,rfl⟩:=c;refine⟨by simpa using k,zb ⟨g,cap,d.setIfInBounds j u,rfl,l,?_,o,r,by simpa using p,?_⟩⟩
  ·simp[World.setCell,Array.getElem?_modify,q]
  ·rw[←i];rw[Array.toList_setIfInBounds,List.take_set]
def yo(t:List zh)(n:ByteArray):Option zh:=match t[zV t n]? with
 |none=>none
 |some e=>if e.name=n then some e else none
theorem jR{t:List zh}{n:ByteArray}{e:zh}(h:yo t n=some e):∃b:zV t n<t.length,t[zV t n]=e/\e.name=n:=by
 unfold yo at h;split at h
 ·cases h
 ·rename_i c a;split at h<;>simp at h
  subst h;obtain⟨b,a⟩:=jM.1 a;exact⟨b,a,by assumption⟩
theorem tW{t:List zh}{n:ByteArray}(h:yo t n=none):¬zV t n<t.length∨∃b:zV t n<t.length,t[zV t n].name≠n:=by
 unfold yo at h;split at h
 ·rename_i a;left;rw[List.getElem?_eq_none_iff] at a;omega
 ·rename_i e a;split at h<;>simp at h
  obtain⟨b,a⟩:=jM.1 a;right;exact⟨b,by rw[a];assumption⟩
theorem Eo(B:Nat)(w:World)(tb:Nat)(t:List zh)(n:ByteArray)(h:TA B w tb t)(l:t.length<=1000)(j:yo t n=none):
  Calls prog 77 #[(π tb),.string n] w fun e i=>e=ε (.tuple #[ι 0,.bool false])/\i=w:=by
 have c:=wQ B w tb t n h l;obtain⟨u,m,d,b⟩:=h.view;obtain⟨p,s⟩:=d.rules;have a:=Q5 c;rcases tW j with k|⟨k,f⟩
 ·clear j;go_enter func77,ntmps77;go_wp2_with (go_at_call 126;refine a.out.mono ?_;rintro e i ⟨rfl,rfl⟩;clear a)
  go_ret2
  exact⟨rfl,rfl⟩
 ·obtain⟨g,rfl,r,_,o,_,_⟩:=kI b _ k;have q:=jz f;go_enter func77,ntmps77;go_wp2_with (go_at_call 126;refine a.out.mono ?_;rintro e i ⟨rfl,rfl⟩;clear a)
  go_ret2
  exact⟨rfl,rfl⟩
theorem AB(B:Nat)(w:World)(tb:Nat)(t:List zh)(n:ByteArray)(l:zh)(h:TA B w tb t)(m:t.length<=1000)(q:yo t n=some l):
  Calls prog 77 #[(π tb),.string n] w fun e k=>e=ε (.tuple #[ι (zV t n),.bool true])/\k=w:=by
 have c:=wQ B w tb t n h m;obtain⟨x,o,d,b⟩:=h.view;obtain⟨s,v⟩:=d.rules;have a:=Q5 c;obtain⟨r,f,p⟩:=jR q;obtain⟨g,rfl,u,_,j,_,i⟩:=kI b _ r;rw[f] at j i;go_enter func77,ntmps77;go_wp2_with (go_at_call 126;refine a.out.mono ?_;rintro e k ⟨rfl,rfl⟩;clear a)
 go_ret2
 exact⟨rfl,rfl⟩
theorem FG(B:Nat)(w:World)(tb:Nat)(t:List zh)(n:ByteArray)(h:TA B w tb t)(a:t.length<=1000)(b:yo t n=none):
  Calls prog 159 #[(π tb),.string n] w fun e c=>e=ε (.tuple #[ι 0,.bool false])/\c=w:=by
 have d:=Q5 (Eo B w tb t n h a b);clear h b a;go_enter func159,ntmps159;go_wp2_with (go_at_call 77;refine d.out.mono ?_;rintro e c ⟨rfl,rfl⟩;clear d)
 go_ret2
 exact⟨rfl,rfl⟩
theorem DW(B:Nat)(w:World)(tb:Nat)(t:List zh)(n:ByteArray)(b:zh)(h:TA B w tb t)(j:t.length<=1000)(d:yo t n=some b):
  Calls prog 159 #[(π tb),.string n] w fun e f=>e=ε (.tuple #[ι b.qh,.bool true])/\f=w:=by
 have i:=Q5 (AB B w tb t n b h j d);obtain⟨v,l,c,a⟩:=h.view;obtain⟨r,u⟩:=c.rules;obtain⟨o,k,m⟩:=jR d;obtain⟨g,rfl,s,_,q,_,p⟩:=kI a _ o;go_enter func159,ntmps159;go_wp2_with (go_at_call 77;refine i.out.mono ?_;rintro e f ⟨rfl,rfl⟩;clear i)
 go_ret2
 exact⟨rfl,rfl⟩
theorem C7:∀(t:List zh) (k:Nat) (e:zh) (d:k<t.length),t[k].name=e.name->t[k].jh=e.jh->(xW t).set (k*3+2) (ι (e.qh:Int))=xW (t.set k e)
 |[],k,_,d,_,_=>by simp at d
 |a::r,0,e,_,b,c=>by simp at b c;simp[xW,b,c]
 |a::r,k+1,e,d,b,c=>by
  have:=C7 r k e (by simpa using d) (by simpa using b) (by simpa using c);simp only[xW,uw,mL] at this ⊢;rw[show(k+1)*3+2=k*3+2+1+1+1 from by omega];simpa using this
def x9(t:List zh)(n:ByteArray)(s:Nat):List zh×Bool:=match yo t n with
 |none=>(t,false)
 |some e=>if s<=e.qh then(t,false) else(t.set (zV t n) {e with qh:=s},true)
theorem FN(t:List zh)(n:ByteArray)(s:Nat):(x9 t n s).1.length=t.length:=by
 unfold x9;split
 ·rfl
 ·split<;>simp
theorem RH(B:Nat)(w:World)(tb:Nat)(t:List zh)(n:ByteArray)(s:Nat)(h:TA B w tb t)(y:t.length<=1000)(_:s<=3000000):
  Calls prog 151 #[(π tb),.string n,ι s] w fun e o=>e=ε (.bool (x9 t n s).2)/\TA B o tb (x9 t n s).1/\Below B w o:=by
 obtain⟨M,H,b,a⟩:=h.view;obtain⟨J,L⟩:=b.rules;have x:=Q5 h;cases f:yo t n with
 |none=>
  have i:Hid (x9 t n s=(t,false)):=by unfold Hid x9;rw[f]
  have d:=Q5 (Eo B w tb t n h y f);rw[i.out];go_enter func151,ntmps151;go_wp2_with (go_at_call 77;refine d.out.mono ?_;rintro e o ⟨rfl,rfl⟩;clear d)
  go_ret;exact⟨rfl,x,zo _ _⟩
 |some k=>
  have d:=Q5 (AB B w tb t n k h y f);obtain⟨z,m,C⟩:=jR f;obtain⟨g,rfl,K,r,D,_,E⟩:=kI a _ z;have G:=qT a;by_cases p:s<=k.qh
  ·have i:Hid (x9 t n s=(t,false)):=by unfold Hid x9;rw[f];simp[p]
   rw[i.out];go_enter func151,ntmps151;go_wp2_with (go_at_call 77;refine d.out.mono ?_;rintro e o ⟨rfl,rfl⟩;clear d)
   go_ret;exact⟨rfl,x,zo _ _⟩
  ·have i:Hid (x9 t n s=(t.set (zV t n) {k with qh:=s},true)):=by unfold Hid x9;rw[f];simp[p]
   rw[i.out];have c:=uZ a (zV t n*3+2) (by rw[eF];omega) (ι (s:Int));rw[C7 t (zV t n) {k with qh:=s} z (by rw[m]) (by rw[m])] at c;have j:tb≠g:=by
    intro u;subst u;obtain⟨_,⟨q,_⟩|⟨N,A,F,q,_,I,_⟩⟩:=a
    ·cases q
    ·simp at q;obtain⟨rfl,_⟩:=q;unfold Q6 at b;rw[I] at b;simp at b
   have l:=b.set_ne j (zV t n*3+2) (ι (s:Int));have v:Hid (TA B (w.setCell ⟨g,zV t n*3+2,none⟩ (ι (s:Int))) tb (t.set (zV t n) {k with qh:=s})):=⟨_,l,by simpa using c⟩;go_enter func151,ntmps151;go_wp2_with (go_at_call 77;refine d.out.mono ?_;rintro e o ⟨rfl,rfl⟩;clear d)
   go_ret;exact⟨rfl,v,(zo _ _).setCell r _⟩
end
section
open Go.Proofs.Tryz
variable {lo:Nat}
def kf(t:List zh)(l:zj):Nat:=match yo t l.pred with
 |none=>0
 |some e=>if l.neg then e.qh+1 else e.qh
def qA(t:List zh)(n:Nat)(l:zj):Nat:=if n<kf t l then kf t l else n
def qM(t:List zh)(c:zd):Nat:=c.body.foldl (qA t) 0
theorem Bz{t:List zh}{M:Nat}(h:∀e∈t,e.qh<=M)(l:zj):kf t l<=M+1:=by
 unfold kf;split
 ·omega
 ·rename_i e b;obtain⟨c,a,_⟩:=jR b;have:=h e (by rw[←a];exact zs c);split<;>omega
theorem CZ{t:List zh}{M:Nat}(h:∀e∈t,e.qh<=M):∀(a:List zj) (n:Nat),n<=M+1->a.foldl (qA t) n<=M+1
 |[],n,b=>b
 |l::a,n,b=>by
  refine CZ h a _ ?_;unfold qA;have:=Bz h l;split<;>omega
theorem BX(B M:Nat)(w:World)(tb:Nat)(t:List zh)(c:zd)(P Q:Value)(h:TA B w tb t)(E:t.length<=1000)(K:∀e∈t,e.qh<=M)(W:M<=2000000)(hs:QD lo w P c.head.args)(L:Re lo w Q c.body)(V:c.body.length<=1000):
  Calls prog 150 #[(π tb),.agg #[.bool c.head.neg,.string c.head.pred,P,Q]] w fun e U=>e=ε (ι (qM t c))/\μ w U:=by
 obtain⟨ao,Z,rfl⟩:=hs.qx;obtain⟨R,I,rfl⟩:=L.qx;have X:=Q5 K;clear K;go_enter func150,ntmps150;go_wp2;go_loopw [5,13] (fun n i wr=>∃k m:Nat,k<=c.body.length/\i=ι k/\n=ι m/\m<=M+1/\μ w wr/\Hid (m=(c.body.take k).foldl (qA t) 0)) (fun _ i _=>c.body.length-(intOf i).toNat)
 case atStart=>exact⟨0,0,zv _,rfl,rfl,zv _,(by go_grown),rfl⟩
 case round=>
  obtain⟨k,m,hk,rfl,rfl,G,d,H⟩:=hrel;have O:=d.size;by_cases x:k<c.body.length
  ·obtain⟨g,Y,J,rfl,F,z,y,u,D⟩:=L.cell k x;have v:=zl d F z;have aa:=zl d F y;have S:=zl d F u;have T:g<wr.heap.size:=by omega
   have r:Hid ((c.body.take (k+1)).foldl (qA t) 0=qA t m c.body[k]):=by rw[Hid,H.out,yM x,j7];rfl
   have o:=h.below d;clear z y u D H;generalize c.body[k]=a at *;have q:=Bz X.out a;cases j:yo t a.pred with
   |none=>
    have l:Hid (kf t a=0):=by unfold Hid kf;rw[j]
    have C:Hid ((c.body.take (k+1)).foldl (qA t) 0=m):=by rw[Hid,r.out,qA,l.out];simp
    have A:=Q5 j;clear r l j q;go_wp2_with (go_at_call 159;refine(FG B _ tb t a.pred (by exact o.below (by go_grown)) E A).mono ?_;rintro e N ⟨rfl,rfl⟩)
    go_roundw
    case rel=>exact⟨k+1,m,by omega,by go_num,rfl,G,(by go_grown),C.out.symm⟩
    case measure=>simp[intOf];omega
   |some f=>
    have A:=Q5 j;cases s:a.neg with
    |true=>
     have p:kf t a=f.qh+1:=by unfold kf;rw[j,s];rfl
     have l:Hid (qA t m a=if m<f.qh+1 then f.qh+1 else m):=by unfold Hid qA;rw[p]
     rw[s] at v;rw[p] at q;clear p j s;by_cases b:m<f.qh+1
     all_goals
      go_wp2_with (go_at_call 159;refine(DW B _ tb t a.pred f (by exact o.below (by go_grown)) E A).mono ?_;rintro e N ⟨rfl,rfl⟩)
      go_roundw
      case rel=>first|exact⟨k+1,f.qh+1,by omega,by go_num,by go_num,by omega,(by go_grown),by rw[Hid,r.out,l.out,zc b]⟩|exact⟨k+1,m,by omega,by go_num,rfl,G,(by go_grown),by rw[Hid,r.out,l.out,za b]⟩
      case measure=>simp[intOf];omega
    |false=>
     have p:kf t a=f.qh:=by unfold kf;rw[j,s];rfl
     have l:Hid (qA t m a=if m<f.qh then f.qh else m):=by unfold Hid qA;rw[p]
     rw[s] at v;rw[p] at q;clear p j s;by_cases b:m<f.qh
     all_goals
      go_wp2_with (go_at_call 159;refine(DW B _ tb t a.pred f (by exact o.below (by go_grown)) E A).mono ?_;rintro e N ⟨rfl,rfl⟩)
      go_roundw
      case rel=>first|exact⟨k+1,f.qh,by omega,by go_num,by go_num,by omega,(by go_grown),by rw[Hid,r.out,l.out,zc b]⟩|exact⟨k+1,m,by omega,by go_num,rfl,G,(by go_grown),by rw[Hid,r.out,l.out,za b]⟩
      case measure=>simp[intOf];omega
  ·have C:Hid (m=qM t c):=by rw[Hid,H.out,xh (by omega)];rfl
   clear H;go_wp2;go_ret;exact⟨by rw[←C.out];rfl,d⟩
def vV(x:List zh×Bool)(c:zd):List zh×Bool:=((x9 x.1 c.head.pred (qM x.1 c)).1,x.2||(x9 x.1 c.head.pred (qM x.1 c)).2)
def vT(t:List zh)(cs:List zd):List zh×Bool:=cs.foldl vV (t,false)
theorem KN{t:List zh}{n:ByteArray}{s M:Nat}(h:∀e∈t,e.qh<=M)(hs:s<=M):∀e∈(x9 t n s).1,e.qh<=M:=by
 unfold x9;split
 ·exact h
 ·split
  ·exact h
  ·intro e a;rcases p3 a with a|a
   ·exact h e a
   ·subst a;exact hs
theorem NS{α β:Type}(f:β->α->β)(b:β)(l:List α)(k:Nat)(a:k<l.length):(l.take (k+1)).foldl f b=f ((l.take k).foldl f b) l[k]:=by rw[yM a,j7];rfl
theorem J0(B M:Nat)(w:World)(tb:Nat)(t:List zh)(v:Value)(cs:List zd)(L:World)(W:L.heap.size=B)(G:Below B L w)(F:Rh lo 171 L v cs)(J:∀c∈cs,vR c)(_:cs.length<=1000)
  (h:TA B w tb t) (hl:t.length<=1000) (hM:∀e∈t,e.qh<=M) (aj:M+cs.length<=1900000):
  Calls prog 104 #[(π tb),v] w fun e w'=>e=ε (.bool (vT t cs).2)/\TA B w' tb (vT t cs).1/\Below B w w'/\(vT t cs).1.length=t.length/\(∀e∈(vT t cs).1,e.qh<=M+cs.length):=by
 obtain⟨ao,am,rfl⟩:=F.qx;have X:Hid (∀c∈cs,vR c):=J;have ab:=G.size;clear J;go_enter func104,ntmps104;go_wp2;go_loopw [5,11] (fun r i wr=>∃k:Nat,k<=cs.length/\i=ι k/\r=.bool ((cs.take k).foldl vV (t,false)).2/\Below B w wr/\TA B wr tb ((cs.take k).foldl vV (t,false)).1/\((cs.take k).foldl vV (t,false)).1.length=t.length/\Hid (∀e∈((cs.take k).foldl vV (t,false)).1,e.qh<=M+k)) (fun _ i _=>cs.length-(intOf i).toNat)
 case atStart=>exact⟨0,zv _,rfl,rfl,zo _ _,h,rfl,hM⟩
 case round=>
  obtain⟨k,hk,rfl,rfl,b,f,D,u⟩:=hrel;have j:μ L wr:=by rw[W];exact G.trans b
  have ac:=b.size;by_cases C:k<cs.length
  ·have O:=NS vV (t,false) cs k C;obtain⟨g,al,aa,ak,Y,rfl,hg,N,P,H,K,E,o⟩:=F.cell k C;have ad:=(j.cell (p:=⟨g,k*4,none⟩) (by omega)).trans N;have an:=(j.cell (p:=⟨g,k*4+1,none⟩) (by omega)).trans P;have ag:=(j.cell (p:=⟨g,k*4+2,none⟩) (by omega)).trans H;have ap:=(j.cell (p:=⟨g,k*4+3,none⟩) (by omega)).trans K;have ah:g<wr.heap.size:=by omega
   have q:=E.below j;have s:=o.below j;obtain⟨ai,I⟩:=X.out _ (zs C);clear N P H K E o;generalize cs[k]=a at *;generalize (cs.take k).foldl vV (t,false)=x at *;obtain⟨tk,rk⟩:=x;simp only at f D u ⊢;have Q:Hid ((cs.take (k+1)).foldl vV (t,false)=vV (tk,rk) a):=O;clear O;have ae:qM tk a<=M+k+1:=CZ u.out a.body 0 (by omega);have af:=FN tk a.head.pred (qM tk a);have HB:Hid (∀e∈(x9 tk a.head.pred (qM tk a)).1,e.qh<=M+(k+1)):=KN (fun e he=>by have:=u.out e he;omega) (by omega);cases hR:(x9 tk a.head.pred (qM tk a)).2 with
   |true=>
    have n:Hid (((cs.take (k+1)).foldl vV (t,false))=((x9 tk a.head.pred (qM tk a)).1,true)):=by rw[Hid,Q.out,vV];simp[hR]
    clear Q;go_wp2_with (first|(go_at_call 150;refine(BX B (M+k) _ tb tk a _ _ (by exact f.below (by go_grown)) (by omega) u.out (by omega) (by exact q.below (by go_grown)) (by exact s.below (by go_grown)) I).mono ?_;rintro e w1 ⟨rfl,m⟩;have d:=Q9 ((zo wr.heap.size wr).alloc (zg _) _) m;have A:=f.below d;have S:=d.size;have l:=(Q6.new wr _ _).below m;obtain⟨U,R⟩:=l.rules)|(go_at_call 151;refine(RH B _ tb tk a.head.pred (qM tk a) A (by omega) (by omega)).mono ?_;rintro e w2 ⟨rfl,z,y⟩))
    go_roundw
    case rel=>exact⟨k+1,by omega,by go_num,by rw[n.out],(b.trans (d.mono (by omega))).trans y,by rw[n.out];exact z,by rw[n.out];simp only;omega,by rw[n.out];exact HB⟩
    case measure=>simp[intOf];omega
   |false=>
    have n:Hid (((cs.take (k+1)).foldl vV (t,false))=((x9 tk a.head.pred (qM tk a)).1,rk)):=by rw[Hid,Q.out,vV];simp[hR]
    clear Q;go_wp2_with (first|(go_at_call 150;refine(BX B (M+k) _ tb tk a _ _ (by exact f.below (by go_grown)) (by omega) u.out (by omega) (by exact q.below (by go_grown)) (by exact s.below (by go_grown)) I).mono ?_;rintro e w1 ⟨rfl,m⟩;have d:=Q9 ((zo wr.heap.size wr).alloc (zg _) _) m;have A:=f.below d;have S:=d.size;have l:=(Q6.new wr _ _).below m;obtain⟨U,R⟩:=l.rules)|(go_at_call 151;refine(RH B _ tb tk a.head.pred (qM tk a) A (by omega) (by omega)).mono ?_;rintro e w2 ⟨rfl,z,y⟩))
    go_roundw
    case rel=>exact⟨k+1,by omega,by go_num,by rw[n.out],(b.trans (d.mono (by omega))).trans y,by rw[n.out];exact z,by rw[n.out];simp only;omega,by rw[n.out];exact HB⟩
    case measure=>simp[intOf];omega
  ·have Z:cs.take k=cs:=xh (by omega);rw[Z] at f D u ⊢;have T:k=cs.length:=by omega
   have V:Hid (∀e∈(vT t cs).1,e.qh<=M+cs.length):=by rw[←T];exact u
   clear Z u;go_wp2;go_ret;exact⟨rfl,f,b,D,V⟩
def xH:Nat->List zh->List zd->List zh×Bool
 |0,t,_=>(t,false)
 |m+1,t,a=>if (vT t a).2 then xH m (vT t a).1 a else((vT t a).1,true)
theorem A4(B:Nat)(w:World)(tb:Nat)(t:List zh)(v:Value)(cs:List zd)(A:World)(q:A.heap.size=B)(E:Below B A w)(D:Rh lo 171 A v cs)(r:∀c∈cs,vR c)(n:cs.length<=1000)
  (h:TA B w tb t) (T:t.length<=1000) (N:∀e∈t,e.qh<=0):
  Calls prog 64 #[(π tb),v] w fun e u=>e=ε (.bool (xH (t.length+1) t cs).2)/\TA B u tb (xH (t.length+1) t cs).1/\Below B w u:=by
 have G:Hid (∀c∈cs,vR c):=r;have O:Hid (A.heap.size=B):=q;clear r q;go_enter func64,ntmps64;go_wp2;go_loopw [5] (fun i wr=>∃(p:Nat) (tk:List zh),p<=t.length+1/\i=ι p/\Below B w wr/\TA B wr tb tk/\tk.length=t.length/\Hid (∀e∈tk,e.qh<=p*cs.length)/\Hid (xH (t.length+1) t cs=xH (t.length+1-p) tk cs)) (fun i _=>t.length+1-(intOf i).toNat)
 case atStart=>exact⟨0,t,zv _,rfl,zo _ _,h,rfl,(by simpa [Hid] using N),rfl⟩
 case round=>
  obtain⟨p,tk,S,rfl,b,k,J,L,H⟩:=hrel;obtain⟨V,Q,m,y⟩:=k.view;obtain⟨M,U⟩:=m.rules;rw[J] at M m y;by_cases R:p<=t.length
  ·have s:p*cs.length<=1000*1000:=Nat.mul_le_mul (by omega) n;have o:=J0 B (p*cs.length) wr tb tk v cs A O.out (E.trans b) D G.out n k (by omega) L.out (by omega);have a:Hid (Calls prog 104 #[(π tb),v] wr fun e u=>e=ε (.bool (vT tk cs).2)/\TA B u tb (vT tk cs).1/\Below B wr u/\(vT tk cs).1.length=tk.length/\(∀e∈(vT tk cs).1,e.qh<=p*cs.length+cs.length)):=o;have x:t.length+1-p=(t.length-p)+1:=by omega
   have C:Hid (xH (t.length+1) t cs=if (vT tk cs).2 then xH (t.length-p) (vT tk cs).1 cs else((vT tk cs).1,true)):=by rw[Hid,H.out,x];rfl
   clear o x H;have z:p*cs.length+cs.length=(p+1)*cs.length:=by rw[hY];omega
   have F:Hid (p*cs.length+cs.length=(p+1)*cs.length):=z;clear z s L;cases l:(vT tk cs).2 with
   |true=>
    have f:Hid (xH (t.length+1) t cs=xH (t.length+1-(p+1)) (vT tk cs).1 cs):=by rw[Hid,C.out,l];simp
    clear C;rw[l] at a;clear l;generalize (vT tk cs).1=K at *;go_wp2_with (go_at_call 104;refine a.out.mono ?_;rintro e P ⟨rfl,j,d,I,g⟩;clear a)
    go_roundw
    case rel=>exact⟨p+1,K,by omega,by go_num,b.trans d,j,by omega,by rw[F.out] at g;exact g,f⟩
    case measure=>simp[intOf];omega
   |false=>
    have f:Hid (xH (t.length+1) t cs=((vT tk cs).1,true)):=by rw[Hid,C.out,l];simp
    clear C;rw[l] at a;clear l;generalize (vT tk cs).1=K at *;go_wp2_with (go_at_call 104;refine a.out.mono ?_;rintro e P ⟨rfl,j,d,I,g⟩;clear a)
    go_ret;exact⟨by rw[f.out];rfl,by rw[f.out];exact j,b.trans d⟩
  ·have f:Hid (xH (t.length+1) t cs=(tk,false)):=by rw[Hid,H.out,show t.length+1-p=0 by omega];rfl
   clear H;go_wp2;go_ret;exact⟨by rw[f.out];rfl,by rw[f.out];exact k,b⟩
end
section
open Go.Proofs.Tryz
variable {w w':World}{base n b g cap m tb:Nat}{v:Value}{xs:List Value}{c:Array Value}
theorem Q6.newAt(w:World)(b:Nat)(c:Array Value)(T:TypeId)(h:b=w.heap.size):Q6 (w.alloc (.cells c T)) b c T:=by subst h;exact Q6.new w c T
theorem Q6.drew{w:World}{b:Nat}{c:Array Value}{T:TypeId}(h:Q6 w b c T):Q6 w.drew b c T:=h
theorem Kt{e:TypeId}{a:Nat}(h:w.ownsRow base e a v n xs)(o:w.heap.size<=b):some b≠v.ownBlock:=by
 intro f;obtain⟨_,⟨j,_⟩|⟨p,k,l,d,_,i,_⟩⟩:=h
 ·subst j;cases f
 ·subst d;simp only[Value.ownBlock,zt] at f;subst f;have:=(kQ.1 i).1;omega
theorem fF{e T:TypeId}{d:Nat}(h:w.ownsRow base e d v n xs)(k:Q6 w b c T)(p:e≠T):some b≠v.ownBlock:=by
 intro i;obtain⟨_,⟨j,_⟩|⟨q,l,o,f,_,a,_⟩⟩:=h
 ·subst j;cases i
 ·subst f;simp only[Value.ownBlock,zt] at i;subst i;unfold Q6 at k;rw[k] at a;simp at a;exact p a.2.symm
theorem Q6.keep{a f:World}{T:TypeId}(h:Q6 a b c T)(d:some b≠v.ownBlock)(i:∀k,k<a.heap.size->some k≠v.ownBlock->f.heap[k]?=a.heap[k]?):Q6 f b c T:=by
 have e:=h.lt;unfold Q6 at *;rw[i b e d];exact h
theorem NZ{e T:TypeId}{a:Nat}(h:w.ownsRow base e a (.slice (some ⟨g,0,none⟩) n cap) m xs)(j:Q6 w b c T)(r:c.size<m*a):b≠g:=by
 intro o;subst o;obtain⟨_,⟨i,_⟩|⟨s,k,l,f,_,d,p,t,q,_⟩⟩:=h
 ·cases i
 ·simp at f;obtain⟨rfl,rfl,rfl⟩:=f;unfold Q6 at j;rw[j] at d;simp at d;rw[←d.1] at q;have:=d8 a p;omega
section
variable {P:Program} {ops:Array Oper} {o:Oper} {a:Act} {K:Act->World->Prop} {Q:Exit->Act->World->Prop}
theorem o4{E:Prop}(D C:World)(l:List Value)(U:TypeId)(J:o.guard=none)(s x:Operand)(t:TypeId)
  (T:o.op=.call {callee:=.builtin .append,args:=#[s,x],argTypes:=#[t,t]})
  (base:Nat) (e:TypeId) (i:TypeInfo) (z:Value) (d f:Nat) (ht:P.underlying t=some (.slice e)) (V:P.info? e=some i) (hz:i.zero=some z)
  (A:i.size=d) (O:i.bytes=f) (M:z.cells.size=d) (I:0<d)
  (v:Value) (n:Nat) (xs:List Value) (W:a.eval s=v) (y:D.ownsRow base e d v n xs) (q:μ D C)
  (b c:Nat) (hx:a.eval x=.slice (some ⟨b,0,none⟩) 1 c) (hb:Q6 C b l.toArray U) (hl:l.length=d) (X:∀u∈l,u.oneCell'=true)
  (hn:n<=1048576) (r:f<=1000) (R:base<=D.heap.size)
  (h:∀G w',w'.ownsRow base e d G (n+1) (xs++l)->Below base D w'->(∀k,k<C.heap.size->some k≠v.ownBlock->w'.heap[k]?=C.heap[k]?)->C.heap.size<=w'.heap.size->K (a.put o.dst G) w'):
  if Region.wanted o (yielded ops a.tmps)=true then Oper.wp P o a C K Q else E:=by
 have hw:Region.wanted o (yielded ops a.tmps)=true:=by simp[Region.wanted,J]
 rw[zc hw];have B:=zB y q;have N:∀k,v.ownBlock=some k->base<=k/\k<D.heap.size:=by
  intro k F;obtain⟨_,H⟩:=y;rcases H with⟨L,_⟩|⟨g,cap,Y,L,J,hh,_⟩
  ·subst L;cases F
  ·subst L;simp only[Value.ownBlock,zt] at F;subst F;exact⟨J,(kQ.1 hh).1⟩
 have S:=q.size;refine wp_append_own _ s x t T base e i z d f ht V hz A O M I v n xs W B ⟨b,0,none⟩ 1 c l hx (by omega) ?_ X ?_ ?_ ?_ ?_
 ·intro j u Z;rw[Addr.add_lit,vz,hb.rules.1];simpa using Z
 ·unfold maxLen;omega
 ·have:(n+1)*f<=1048577*1000:=Nat.mul_le_mul (by omega) r;omega
 ·omega
 ·intro G w' H p _;refine h G w' H ⟨p.os.trans q.os,p.tape.trans q.tape,p.output.trans q.output,by have:=p.size;omega,fun k F=>?_⟩ p.block p.size;rw[p.block k (by omega) (fun e=>by have:=N k e.symm;omega)];exact q.block k (by omega)
end
def vr(t:List zh)(x:zh)(k:Nat):List zh:=t.take k++x::t.drop k
theorem f6(t:List zh)(x:zh)(k:Nat):(vr t x k).length=t.length+1:=by simp[vr];omega
theorem Ib(t:List zh)(x:zh):vr t x t.length=t++[x]:=by simp[vr]
theorem Iy(t:List zh)(x:zh)(j:Nat)(d:j<t.length):∃h:j<(vr t x (j+1)).length,(vr t x (j+1))[j]=t[j]:=by
 refine⟨by rw[f6];omega,?_⟩;unfold vr;rw[vq (by simp;omega)];simp
theorem Lr(t:List zh)(x:zh)(j:Nat)(d:j<=t.length):∃h:j<(vr t x j).length,(vr t x j)[j]=x:=by
 refine⟨by rw[f6];omega,?_⟩;unfold vr;rw[mt (by simp;omega)];simp[d]
theorem MC(t:List zh)(x:zh)(j:Nat)(e:j<t.length):((vr t x (j+1)).set (j+1) t[j]).set j x=vr t x j:=by
 unfold vr;have f:=yM e;have h:=xp e;have d:(t.take j).length=j:=by simp;omega
 rw[f,h,kH,fW _ _ (by omega),d,fW _ _ (by omega),d];simp
theorem ED:∀(t:List zh) (k:Nat) (e:zh),k<t.length->(((xW t).set (k*3) (.string e.name)).set (k*3+1) (ι (e.jh:Int))).set (k*3+2) (ι (e.qh:Int))=xW (t.set k e)
 |[],k,_,d=>by simp at d
 |a::r,0,e,_=>by simp[xW]
 |a::r,k+1,e,d=>by
  have:=ED r k e (by simpa using d);simp only[xW,uw,mL] at this ⊢;rw[show(k+1)*3=k*3+1+1+1 from by omega,show k*3+1+1+1+2=k*3+2+1+1+1 from by omega];simpa using this
theorem ea{B:Nat}{t:List zh}(h:w.ownsRow B 221 3 (.slice (some ⟨g,0,none⟩) n cap) m (xW t))(k:Nat)(d:k<t.length)(e:zh):
  (((w.setCell ⟨g,k*3,none⟩ (.string e.name)).setCell ⟨g,k*3+1,none⟩ (ι (e.jh:Int))).setCell ⟨g,k*3+2,none⟩ (ι (e.qh:Int))).ownsRow B 221 3 (.slice (some ⟨g,0,none⟩) n cap) m (xW (t.set k e)):=by
 have f:=eF t;rw[←ED t k e d];exact uZ (uZ (uZ h _ (by omega) _) _ (by simp;omega) _) _ (by simp;omega) _
structure qn (tb:Nat) (w w':World):Prop where
 size:w.heap.size<=w'.heap.size
 box:∀b c T,b≠tb->T≠221->Q6 w b c T->Q6 w' b c T
theorem qn.trans{a b c:World}(h:qn tb a b)(k:qn tb b c):qn tb a c:=⟨yc h.size k.size,fun x y z e d f=>k.box x y z e d (h.box x y z e d f)⟩
theorem qn.of(h:μ w w'):qn tb w w':=⟨h.size,fun _ _ _ _ _ k=>k.below h⟩
theorem qn.drew{tb:Nat}{w w':World}(h:qn tb w w'):qn tb w w'.drew:=⟨h.size,fun b c T e f d=>(h.box b c T e f d).drew⟩
theorem qn.setRow(h:qn tb w w'){B:Nat}(f:w'.ownsRow B 221 3 (.slice (some ⟨g,0,none⟩) n cap) m xs)(o:Nat)(u:Value):qn tb w (w'.setCell ⟨g,o,none⟩ u):=by
 refine⟨by simp[World.setCell];exact h.size,fun b c T i e j=>?_⟩;have d:=h.box b c T i e j;have:=fF f d (Ne.symm e);simp only[Value.ownBlock,ne_eq,zt] at this;exact d.set_ne this _ _
theorem Ch(h:qn tb w w'){B:Nat}{t:List zh}(d:w'.ownsRow B 221 3 (.slice (some ⟨g,0,none⟩) n cap) m (xW t))(k:Nat)(f:k<t.length)(u1 u2 u3:Value):
  qn tb w (((w'.setCell ⟨g,k*3,none⟩ u1).setCell ⟨g,k*3+1,none⟩ u2).setCell ⟨g,k*3+2,none⟩ u3):=by
 have e:=eF t;exact((h.setRow d _ _).setRow (uZ d _ (by omega) _) _ _).setRow (uZ (uZ d _ (by omega) _) _ (by simp;omega) _) _ _
theorem Qs:(prog.info? 221).map (fun i=>(i.zero,i.size,i.bytes))=some (some (.agg #[.string ByteArray.empty,ι 0,ι 0]),3,32):=by kernel_rfl
theorem AD(B:Nat)(w:World)(tb:Nat)(t:List zh)(i:Nat)(x:zh)(h:TA B w tb t)(hl:t.length<=1000)(hi:i<=t.length)(hB:B<=w.heap.size)(W:B<=tb):
  Calls prog 147 #[(π tb),ι i,.agg #[.string x.name,ι x.jh,ι x.qh]] w fun e w'=>e=ε (.tuple #[])/\TA B w' tb (t.take i++x::t.drop i)/\Below B w w'/\qn tb w w':=by
 obtain⟨i0,R,N,ac,S⟩:=info_parts Qs;obtain⟨ao,cap,z,p⟩:=h.view;obtain⟨hc,hf,ar⟩:=z.boxed;have y:μ w (((w.alloc (.cells #[.string x.name,ι (x.jh:Int),ι (x.qh:Int)] 221)).alloc (.cells #[.string x.name,ι (x.jh:Int),ι (x.qh:Int)] 221)).drew):=(by go_grown);go_enter func147,ntmps147;go_wp2;go_region_law (refine o4 w _ [.string x.name,ι (x.jh:Int),ι (x.qh:Int)] 221 rfl (.tmp 11) (.tmp 13) 125 rfl B 221 i0 _ 3 32 underlying125 R N ac S rfl (by decide) _ _ _ (by simp[Act.eval]) p (by exact(by go_grown)) (w.heap.size+1) 1 (by simp[Act.eval]) (by exact Q6.drew (Q6.newAt _ _ _ _ (by simp))) rfl (by simp[Value.oneCell']) (by omega) (by omega) hB ?_;intro v' w2 I J A af;obtain⟨C,q,rfl⟩:=zp I;have r:=(z.below y).keep (fF p z (by decide)) A;obtain⟨aj,ap⟩:=r.rules;have F:=Q6.keep (Q6.drew ((Q6.new w _ _).below zT)) (Kt p (zg _)) A)
 all_goals
  go_wp2;go_loopw [6] (fun k wr=>∃j:Nat,i<=j/\j<=t.length/\k=ι j/\Q6 wr tb #[.slice C (t.length+1) q] 127/\wr.ownsRow B 221 3 (.slice C (t.length+1) q) (t.length+1) (xW (vr t x j))/\Q6 wr w.heap.size #[.string x.name,ι (x.jh:Int),ι (x.qh:Int)] 221/\Below B w wr/\qn tb w wr) (fun k _=>(intOf k).toNat)
  case atStart=>
   refine⟨t.length,hi,zg _,rfl,r.set 0 _,?_,F.set_ne (by omega) _ _,?_,?_⟩
   ·rw[Ib];have:=xO I ((QH.refl tb w2).setCell 0 (.slice C (t.length+1) q)) r (by decide);simpa [xW] using this
   ·exact J.setCell W _
   ·exact⟨by simp[World.setCell];exact J.size,fun b c T h1 h2 h3=>((h3.below y).keep (fF p h3 (Ne.symm h2)) A).set_ne h1 _ _⟩
  case round=>
   obtain⟨j,ai,ak,rfl,s,l,D,E,u⟩:=hrel;obtain⟨am,au⟩:=s.rules;obtain⟨ah,al⟩:=D.rules;by_cases ag:i<j
   ·obtain⟨j,rfl⟩:∃j',j=j'+1:=⟨j-1,by omega⟩;obtain⟨ae,H⟩:=Iy t x j (by omega);obtain⟨g,rfl,hg,aq,U,ad,Z⟩:=kI (t:=vr t x (j+1)) (by rw[f6];exact l) j ae;rw[H] at U ad Z;have an:=qT l;have d:=fF l s (by decide);have f:=NZ l D (by simp;omega);simp only[Value.ownBlock,ne_eq,zt] at d;obtain⟨V,M⟩:=Lr t x (j+1) (by omega);obtain⟨g',L,_,_,O,Y,X⟩:=kI (t:=vr t x (j+1)) (by rw[f6];exact l) (j+1) V;simp at L;subst L;rw[M] at O Y X;clear H M;go_wp2;go_region
    go_wp2;go_region
    go_wp2;have G:=ea (ea l (j+1) (by rw[f6];omega) t[j]) j (by rw[fA,f6];omega) x;have aa:=Ch (Ch u l (j+1) (by rw[f6];omega) (.string t[j].name) (ι (t[j].jh:Int)) (ι (t[j].qh:Int))) (ea l (j+1) (by rw[f6];omega) t[j]) j (by rw[fA,f6];omega) (.string x.name) (ι (x.jh:Int)) (ι (x.qh:Int));rw[MC t x j (by omega)] at G;go_roundw
    case rel=>exact⟨j,by omega,by omega,rfl,(((((((s.set_ne d _ _).set_ne d _ _).set_ne d _ _).set_ne d _ _).set_ne d _ _).set_ne d _ _).drew).drew,G.drew.drew,(((((((D.set_ne f _ _).set_ne f _ _).set_ne f _ _).set_ne f _ _).set_ne f _ _).set_ne f _ _).drew).drew,(by go_grown),aa.drew.drew⟩
    case measure=>simp[intOf]
   ·have ab:j=i:=by omega
    subst ab;go_wp2;go_end0
    exact⟨rfl,⟨_,s,by rw[show(t.take j++x::t.drop j).length=t.length+1 from f6 t x j];exact l⟩,E,u⟩
end
section
open Go.Proofs.Tryz
theorem IA(a b:Nat):((a:Int) == (b:Int))=decide (a=b):=by
 by_cases h:a=b
 ·subst h;simp
 ·rw[decide_eq_false h,beq_eq_false_iff_ne];omega
theorem Mh{a b:Bool}(h:a=b):Ending.returned (.bool a)=ε (.bool b):=by rw[h]
def vI(t:List zh)(l:zj):Option (List zh):=match yo t l.pred with
 |some e=>if e.jh=l.args.length then some t else none
 |none=>some (vr t ⟨l.pred,l.args.length,0⟩ (zV t l.pred))
theorem Ds(B:Nat)(w:World)(tb:Nat)(t:List zh)(l:zj)(d:Option Addr)(a:Nat)(h:TA B w tb t)(p:t.length<=1000)(n:zh)(s:yo t l.pred=some n):
  Calls prog 102 #[(π tb),.agg #[.bool l.neg,.string l.pred,.slice d l.args.length a]] w fun e o=>e=ε (.bool (decide (n.jh=l.args.length)))/\μ w o:=by
 obtain⟨A,u,b,f⟩:=h.view;have v:=b.lt;have j:=(zo w.heap.size w).alloc (zg _) (.cells #[.bool l.neg,.string l.pred,.slice d l.args.length a] 90);have c:=Q5 (wQ B _ tb t l.pred (h.below j) p);obtain⟨x,z⟩:=b.rules;obtain⟨r,k,q⟩:=jR s;obtain⟨g,rfl,y,_,i,m,_⟩:=kI f _ r;rw[k] at i m;go_enter func102,ntmps102;go_wp2_with (go_at_call 126;refine c.out.mono ?_;rintro e o ⟨rfl,rfl⟩;clear c)
 go_quiet (fail)
 go_wp2;go_quiet (fail)
 go_wp2;go_ret;exact⟨Mh (IA _ _),(by repeat'(first|with_reducible(first|apply zR|assumption|apply zN|apply zA|apply zD|apply zS)|go_size))⟩
theorem Ks(B:Nat)(w:World)(tb:Nat)(t:List zh)(l:zj)(o:Option Addr)(d:Nat)(h:TA B w tb t)(u:t.length<=1000)(z:yo t l.pred=none)(s:B<=w.heap.size)(n:B<=tb):
  Calls prog 102 #[(π tb),.agg #[.bool l.neg,.string l.pred,.slice o l.args.length d]] w fun e p=>e=ε (.bool true)/\TA B p tb (vr t ⟨l.pred,l.args.length,0⟩ (zV t l.pred))/\Below B w p/\qn tb w p:=by
 obtain⟨L,E,j,q⟩:=h.view;have G:=j.lt;have r:=ia t l.pred;have a:=(zo w.heap.size w).alloc (zg _) (.cells #[.bool l.neg,.string l.pred,.slice o l.args.length d] 90);have c:=Q5 (wQ B _ tb t l.pred (h.below a) u);obtain⟨H,K⟩:=j.rules;have x:=h;have m:=Q5 x;have A:Hid (vr t ⟨l.pred,l.args.length,0⟩ (zV t l.pred)=t.take (zV t l.pred)++⟨l.pred,l.args.length,0⟩::t.drop (zV t l.pred)):=rfl;rcases tW z with y|⟨y,v⟩
 ·clear z;generalize zV t l.pred=k at *;go_enter func102,ntmps102;go_wp2_with (go_at_call 126;refine c.out.mono ?_;rintro e p ⟨rfl,rfl⟩;clear c)
  go_quiet (fail)
  go_wp2_with (go_at_call 147;refine(AD B _ tb t k ⟨l.pred,l.args.length,0⟩ (by exact m.out.below (by repeat'(first|with_reducible(first|apply zR|assumption|apply zN|apply zA|apply zD|apply zS)|go_size))) u r (by exact yc s (by simp)) n).mono ?_;rintro e D ⟨rfl,i,f,b⟩)
  go_ret;exact⟨rfl,i,((zJ (a.mono s) _)).trans f,(qn.of (zJ a _)).trans b⟩
 ·obtain⟨g,rfl,J,_,C,F,_⟩:=kI q _ y;have I:=jz v;generalize zV t l.pred=k at *;go_enter func102,ntmps102;go_wp2_with (go_at_call 126;refine c.out.mono ?_;rintro e p ⟨rfl,rfl⟩;clear c)
  go_quiet (fail)
  go_wp2_with (go_at_call 147;refine(AD B _ tb t k ⟨l.pred,l.args.length,0⟩ (by exact m.out.below (by repeat'(first|with_reducible(first|apply zR|assumption|apply zN|apply zA|apply zD|apply zS)|go_size))) u r (by exact yc s (by simp)) n).mono ?_;rintro e D ⟨rfl,i,f,b⟩)
  go_ret;exact⟨rfl,i,((zJ (a.mono s) _)).trans f,(qn.of (zJ a _)).trans b⟩
end
section
open Go.Proofs.Tryz
variable {lo:Nat}{t:List zh}{o:Option (List zh)}
theorem en{a:List zh}{l:zj}(h:vI t l=some a):a.length<=t.length+1:=by
 unfold vI at h;split at h
 ·split at h<;>simp at h;subst h;omega
 ·simp at h;subst h;rw[f6];omega
theorem Pa{c:List zh}{l:zj}(h:vI t l=some c)(b:∀e∈t,e.qh<=0):∀e∈c,e.qh<=0:=by
 unfold vI at h;split at h
 ·split at h<;>simp at h;subst h;exact b
 ·simp at h;subst h;intro e a;unfold vr at a;rcases zI.1 a with a|a
  ·exact b e (fS a)
  ·rcases zx.1 a with a|a
   ·subst a;exact zg _
   ·exact b e (dK a)
def ul(o:Option (List zh))(l:zj):Option (List zh):=o.bind (vI · l)
def zk(c:zd):List zj:=c.head::c.body
def ui(cs:List zd):Option (List zh):=(cs.flatMap zk).foldl ul (some [])
theorem nZ(b:List zj):b.foldl ul none=none:=by
 induction b with
 |nil=>rfl
 |cons a b c=>exact c
theorem wn:∀(d:List zj) (t:List zh),(∀e∈t,e.qh<=0)->∀a,d.foldl ul (some t)=some a->∀e∈a,e.qh<=0
 |[],t,b,a,h=>by simp at h;subst h;exact b
 |l::d,t,b,a,h=>by
  simp only[ut] at h;cases c:vI t l with
  |none=>rw[show ul (some t) l=none from c,nZ] at h;cases h
  |some f=>rw[show ul (some t) l=some f from c] at h;exact wn d f (Pa c b) a h
theorem sw:∀(b:List zj) (t:List zh),∀a,b.foldl ul (some t)=some a->a.length<=t.length+b.length
 |[],t,a,h=>by simp at h;subst h;simp
 |l::b,t,a,h=>by
  simp only[ut] at h;cases c:vI t l with
  |none=>rw[show ul (some t) l=none from c,nZ] at h;cases h
  |some d=>rw[show ul (some t) l=some d from c] at h;have:=sw b d a h;have:=en c;simp;omega
theorem As(B:Nat)(w:World)(tb:Nat)(t:List zh)(l:zj)(c:Option Addr)(a:Nat)(h:TA B w tb t)(g:t.length<=1000)(b:vI t l=none):
  Calls prog 102 #[(π tb),.agg #[.bool l.neg,.string l.pred,.slice c l.args.length a]] w fun e j=>e=ε (.bool false)/\μ w j:=by
 unfold vI at b;split at b
 ·rename_i f i;split at b
  ·cases b
  ·rename_i d;have:=Ds B w tb t l c a h g f i;rw[decide_eq_false d] at this;exact this
 ·cases b
theorem CM(B:Nat)(w:World)(tb:Nat)(t m:List zh)(l:zj)(c:Option Addr)(a:Nat)(h:TA B w tb t)(k:t.length<=1000)(b:vI t l=some m)(n:B<=w.heap.size)(i:B<=tb):
  Calls prog 102 #[(π tb),.agg #[.bool l.neg,.string l.pred,.slice c l.args.length a]] w fun e d=>e=ε (.bool true)/\TA B d tb m/\Below B w d/\qn tb w d:=by
 unfold vI at b;split at b
 ·rename_i p g;split at b
  ·rename_i j;simp at b;subst b;have:=Ds B w tb t l c a h k p g;rw[decide_eq_true j] at this;refine this.mono ?_;rintro e d ⟨rfl,f⟩;exact⟨rfl,h.below f,f.mono n,qn.of f⟩
  ·cases b
 ·rename_i g;simp at b;subst b;exact Ks B w tb t l c a h k g n i
def wW(o:Option (List zh))(w:World)(e:Ending)(w':World):Prop:=
 μ w w'/\match o with
  |none=>e=ε (.tuple #[.agg #[ν],.bool false])
  |some t=>∃a,e=ε (.tuple #[.agg #[a],.bool true])/\w'.ownsRow w.heap.size 221 3 a t.length (xW t)
theorem Ca{w w':World}(h:Hid (o=none))(b:μ w w'):wW o w (ε (.tuple #[.agg #[ν],.bool false])) w':=by
 have a:o=none:=h;subst a;exact⟨b,rfl⟩
theorem KT{w w':World}{a:Value}(h:Hid (o=some t))(c:μ w w')(b:w'.ownsRow w.heap.size 221 3 a t.length (xW t)):wW o w (ε (.tuple #[.agg #[a],.bool true])) w':=by
 have d:o=some t:=h;subst d;exact⟨c,a,rfl,b⟩
theorem Av(w:World)(v:Value)(cs:List zd)(I:Rh lo 171 w v cs)(hN:(cs.flatMap zk).length<=1000):
  Calls prog 62 #[v] w fun e w'=>wW (ui cs) w e w':=by
 obtain⟨ao,aG,rfl⟩:=I.qx;have aB:cs.length<=1000:=by
  have:cs.length<=(cs.flatMap zk).length:=by
   clear hN I;induction cs with
   |nil=>simp
   |cons c cs ih=>simp[zk] at ih ⊢;omega
  omega
 go_enter func62,ntmps62;go_wp2;go_loopw [11] (fun i wr=>∃(k:Nat) (tk:List zh),k<=cs.length/\i=ι k/\μ w wr/\TA w.heap.size wr (w.heap.size+1) tk/\Q6 wr w.heap.size #[ν] 127/\tk.length+((cs.drop k).flatMap zk).length<=1000/\Hid (ui cs=((cs.drop k).flatMap zk).foldl ul (some tk))) (fun i _=>cs.length-(intOf i).toNat)
 case atStart=>
  have u:=(zo w.heap.size w).alloc (zg _) (.cells #[ν] 127);exact⟨0,[],zv _,rfl,(by go_grown),⟨_,Q6.newAt _ _ _ _ (by simp),yC _ _ _ _⟩,(Q6.new w _ _).below zT,(by simpa using hN),rfl⟩
 case round=>
  obtain⟨k,tk,hk,rfl,m,s,f,Y,H⟩:=hrel;have D:=m.size;have an:=f.lt;have aE:w.heap.size+1<wr.heap.size:=by obtain⟨_,hb,_⟩:=s;exact hb.lt
  by_cases X:k<cs.length
  ·have F:=xp X;obtain⟨g,a2,ax,aA,aw,rfl,hg,ad,aa,O,ab,ae,ar⟩:=I.cell k X;have az:=zl m hg ad;have a5:=zl m hg aa;have a0:=zl m hg O;have aC:=zl m hg ab;have a4:g<wr.heap.size:=by omega
   clear ad aa O ab ae;generalize cs[k]=c at *;rw[F] at Y;have H1:Hid (ui cs=(c.body++(cs.drop (k+1)).flatMap zk).foldl ul (ul (some tk) c.head)):=by rw[Hid,H.out,F];rfl
   simp only[uw,zk,yp,xd] at Y;generalize hR:(cs.drop (k+1)).flatMap zk=rest at *;have HR:=Q5 hR;clear hR H F;cases n:vI tk c.head with
   |none=>
    have L:=Q5 n;have HF:Hid (ui cs=none):=by rw[Hid,H1.out,show ul (some tk) c.head=none from n,nZ]
    clear H1 n;go_wp2_with (go_at_call 102;refine(As w.heap.size _ (w.heap.size+1) tk c.head _ _ (by exact s.below (by go_grown)) (by omega) L).mono ?_;rintro e w1 ⟨rfl,u⟩;have V:=Q9 ((zo wr.heap.size wr).alloc (zg _) _) u;have T:=Q9 m V;have b:=f.below V;obtain⟨q,M,ai⟩:=b.boxed)
    exact zL (v:=.tuple #[.agg #[ν],.bool false]) (by simp[results,results62,go_sem,q]) rfl (Ca HF (by go_grown))
   |some t1=>
    have L:=Q5 n;have a6:=en n;have H2:Hid (ui cs=(c.body++rest).foldl ul (some t1)):=by rw[Hid,H1.out,show ul (some tk) c.head=some t1 from n]
    clear H1 n;go_wp2_with (go_at_call 102;refine(CM w.heap.size _ (w.heap.size+1) tk t1 c.head _ _ (by exact s.below (by go_grown)) (by omega) L (by exact yc D (by simp)) (by omega)).mono ?_;rintro e w1 ⟨rfl,aq,u,C⟩;have T:=(m.alloc D _).trans u;have b:=C.box _ _ _ (by omega) (by decide) (f.below zT);have P:=C.box _ _ _ (by omega) (by decide) (Q6.new wr _ _);obtain⟨aj,ah,ak⟩:=P.boxed;have ai:=b.lt)
    go_loopw [23] (fun i wj=>∃(j:Nat) (p:List zh),j<=c.body.length/\i=ι j/\μ w wj/\TA w.heap.size wj (w.heap.size+1) p/\Q6 wj w.heap.size #[ν] 127/\p.length+(c.body.drop j).length+rest.length<=1000/\Hid (ui cs=(c.body.drop j++rest).foldl ul (some p))) (fun i _=>c.body.length-(intOf i).toNat)
    case atStart=>exact⟨0,t1,zv _,rfl,T,aq,b,(by simp;omega),H2⟩
    case round=>
     clear aj ah P ak;obtain⟨j,p,hj,rfl,l,r,d,W,HJ⟩:=hrel;have y:=l.size;have am:=d.lt;by_cases R:j<c.body.length
     ·obtain⟨gl,a8,av,rfl,G,Q,E,z,_⟩:=ar.cell j R;have a3:=zl l G Q;have a7:=zl l G E;have aD:=zl l G z;have a1:gl<wr.heap.size:=by omega
      have J:=xp R;clear Q E z;generalize c.body[j]=a at *;rw[J] at W;have x:Hid (ui cs=(c.body.drop (j+1)++rest).foldl ul (ul (some p) a)):=by rw[Hid,HJ.out,J];rfl
      simp only[xd] at W;clear J HJ;cases n:vI p a with
      |none=>
       have L:=Q5 n;have HF:Hid (ui cs=none):=by rw[Hid,x.out,show ul (some p) a=none from n,nZ]
       clear x n;go_wp2_with (go_at_call 102;refine(As w.heap.size _ (w.heap.size+1) p a _ _ (by exact r.below (by go_grown)) (by omega) L).mono ?_;rintro e w3 ⟨rfl,K⟩;have Z:=Q9 ((zo wr.heap.size wr).alloc (zg _) _) K;have B:=Q9 l Z;have h:=d.below Z;obtain⟨q,M,aF⟩:=h.boxed)
       exact zL (v:=.tuple #[.agg #[ν],.bool false]) (by simp[results,results62,go_sem,q]) rfl (Ca HF (by go_grown))
      |some t2=>
       have L:=Q5 n;have a9:=en n;have ap:Hid (ui cs=(c.body.drop (j+1)++rest).foldl ul (some t2)):=by rw[Hid,x.out,show ul (some p) a=some t2 from n]
       have ay:w.heap.size+1<wr.heap.size:=by obtain⟨_,hb,_⟩:=r;exact hb.lt
       clear x n;go_wp2_with (go_at_call 102;refine(CM w.heap.size _ (w.heap.size+1) p t2 a _ _ (by exact r.below (by go_grown)) (by omega) L (by exact yc y (by simp)) (by omega)).mono ?_;rintro e w3 ⟨rfl,ag,K,N⟩;have B:=(l.alloc y _).trans K;have h:=N.box _ _ _ (by omega) (by decide) (d.below zT))
       go_roundw
       case rel=>exact⟨j+1,t2,by omega,by go_num,B,ag,h,by omega,ap⟩
       case measure=>simp[intOf];omega
     ·have HE:Hid (ui cs=((cs.drop (k+1)).flatMap zk).foldl ul (some p)):=by rw[Hid,HJ.out,ue (by omega),HR.out];rfl
      have al:p.length+rest.length<=1000:=by omega
      clear HJ;go_wp2;go_roundw
      case rel=>exact⟨k+1,p,by omega,by go_num,l,r,d,by rw[HR.out];exact al,HE⟩
      case measure=>simp[intOf];omega
  ·have HF:Hid (ui cs=some tk):=by rw[Hid,H.out,ue (by omega)];rfl
   obtain⟨ac,A,U,S⟩:=s.view;obtain⟨hc,hf⟩:=U.rules;obtain⟨q,M⟩:=f.rules;have au:=U.lt;clear H;go_wp2;have af:=xO S ((QH.refl w.heap.size wr).setCell 0 (.slice ac tk.length A)) f (by decide);exact zL (v:=.tuple #[.agg #[.slice ac tk.length A],.bool true]) (by simp[results,results62,go_sem,q]) rfl (KT HF (by go_grown) af)
end
section
variable {lo:Nat}
def BM(l:zj):Prop:=l.pred.size<=6/\0<l.pred.size/\l.args.length<=1000/\∀t∈l.args,0<t.size/\t.size<=6
def ip(c:zd):Prop:=(∀l∈zk c,BM l)/\c.body.length<=1000
end
end Go.Proofs.YteampbddflhngaaGreat
