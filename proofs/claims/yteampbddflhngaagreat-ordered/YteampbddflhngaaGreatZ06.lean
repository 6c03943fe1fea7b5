import Derived.Deep.RegionLaw
import Derived.Test.YteampbddflhngaaGreatZ03
namespace Go.Proofs.YteampbddflhngaaGreat
set_option linter.all false
set_option maxRecDepth 100000
set_option maxHeartbeats 1000000
open Go.RowKit
section
open Go.Proofs.Tryz
variable {lo:Nat}{l:κ}
theorem fU(t:ByteArray)(w:World):
  Calls prog 156 #[.string t] w fun e a=>e=ε (.bool (zP t))/\a=w:=by
 unfold zP;by_cases h:0<t.size
 ·rw[qn h];go_enter func156,ntmps156;go_wp2
  all_goals go_ret
  all_goals go_light
  all_goals exact⟨by simp_all [vR];try omega,rfl⟩
 ·rw[n6 h];go_enter func156,ntmps156;go_wp2
  all_goals go_ret
  all_goals go_light
  all_goals exact⟨by simp_all [vR],rfl⟩
theorem QF.cell{w:World}{c:Option Addr}{n cap:Nat}{vs:κ}(h:QF lo w (.slice c n cap) vs)(k:Nat)(i:k<vs.length):∃g,c=some ⟨g,0,none⟩/\g<w.heap.size/\w.cell? ⟨g,k,none⟩=some (.string vs[k]):=by
 have f:=h;obtain⟨g,d,b,_,e,a⟩:=yx f (by omega);simp at b;exact⟨g,b.1,e,a k _ (by simp[i])⟩
def yu:κ->ByteArray->Option Nat
 |[],_=>none
 |y::r,n=>if y=n then some 0 else(yu r n).map (·+1)
def fw(l:κ)(n:ByteArray):Int:=match yu l n with
 |none=>-1
 |some k=>k
theorem hO:∀{l:κ} {n:ByteArray} {k:Nat},yu l n=some k->∃h:k<l.length,l[k]=n
 |[],_,_,h=>by simp[yu] at h
 |y::r,n,k,h=>by
  unfold yu at h;split at h
  ·simp at h;subst h;exact⟨by simp,by simpa⟩
  ·cases a:yu r n with
   |none=>rw[a] at h;simp at h
   |some j=>rw[a] at h;simp at h;subst h;obtain⟨b,c⟩:=hO a;exact⟨by simpa using b,by simpa using c⟩
theorem oR{n:ByteArray}{k:Nat}(b:k<l.length)(a:l[k]≠n):yu (l.drop k) n=(yu (l.drop (k+1)) n).map (·+1):=by rw[xn b,yu,za a]
theorem oK{n:ByteArray}{k:Nat}(a:k<l.length)(b:l[k]=n):yu (l.drop k) n=some 0:=by rw[xn a,yu,zc b]
theorem o5:∀(l:κ) (n:ByteArray),(yu l n).isSome=xf n l
 |[],n=>by rw[rf.2 (by simp)];rfl
 |y::r,n=>by
  unfold yu;by_cases e:y=n
  ·rw[zc e,jQ.2 (by simp[e])];rfl
  ·rw[za e,Option.isSome_map,o5 r n];cases h:xf n r with
   |true=>exact(jQ.2 (pE _ (jQ.1 h))).symm
   |false=>exact(rf.2 (by have:=rf.1 h;simp[this,Ne.symm e])).symm
theorem G9(w:World)(h:Nat)(f:Value)(vs:κ)(t:ByteArray)(c:Q8 w h #[f] 246)(hs:QF lo w f vs)(r:vs.length<=1000):
  Calls prog 200 #[(π h),.string t] w fun e m=>e=ε (.tuple #[ι ((yu vs t).getD 0:Nat),.bool (yu vs t).isSome])/\m=w:=by
 obtain⟨p,u⟩:=c.rules;obtain⟨v,j,rfl⟩:=hs.qx;go_enter func200,ntmps200;go_wp2;go_loop [13] (fun i=>∃k:Nat,k<=vs.length/\i=ι k/\Hid (yu vs t=(yu (vs.drop k) t).map (·+k))) (fun i=>vs.length-(intOf i).toNat)
 case atStart=>exact⟨0,zv _,rfl,by simp[Hid]⟩
 case round=>
  obtain⟨k,q,rfl,H⟩:=hrel;by_cases a:k<vs.length
  ·obtain⟨g,rfl,s,n⟩:=hs.cell k a;by_cases d:vs[k]=t
   ·have o:=gE d;have b:Hid (yu vs t=some k):=by rw[Hid,H.out,oK a d];simp
    go_wp2;go_ret2
    exact⟨by rw[b.out];rfl,rfl⟩
   ·have o:=j5 d;have b:Hid (yu vs t=(yu (vs.drop (k+1)) t).map (·+(k+1))):=by
     rw[Hid,H.out,oR a d];cases yu (vs.drop (k+1)) t<;>simp;omega
    go_wp2;go_round
    ·exact⟨k+1,by omega,by go_num,b⟩
    ·simp[intOf];omega
  ·have b:Hid (yu vs t=none):=by rw[Hid,H.out,uj (by omega)];rfl
   go_wp2;go_ret2
   exact⟨by rw[b.out];rfl,rfl⟩
theorem wM(w:World)(c:Nat)(b:Value)(vs:κ)(t:ByteArray)(a:Q8 w c #[b] 246)(hs:QF lo w b vs)(g:vs.length<=1000):
  Calls prog 183 #[(π c),.string t] w fun e d=>e=ε (.bool (xf t vs))/\d=w:=by
 rw[←o5 vs t];have f:=Q7 (G9 w c b vs t a hs g);generalize yu vs t=o at *;go_enter func183,ntmps183;go_wp2_with (go_at_call 200;refine f.out.mono ?_;rintro e d ⟨rfl,rfl⟩;clear f)
 go_ret;exact⟨rfl,rfl⟩
end
section
open Go.Proofs.Tryz
variable {lo:Nat}{w:World}{c:Array Value}{vs:κ}{t:ByteArray}
theorem Q8.set{b:Nat}{T:TypeId}(h:Q8 w b c T)(o:Nat)(u:Value):Q8 (w.setCell ⟨b,o,none⟩ u) b (c.setIfInBounds o u) T:=by
 unfold Q8 at *;simp[World.setCell,Array.getElem?_modify,h]
theorem Q8.set_ne{b b':Nat}{T:TypeId}(h:Q8 w b c T)(a:b≠b')(o:Nat)(u:Value):Q8 (w.setCell ⟨b',o,none⟩ u) b c T:=by
 unfold Q8 at *;rw[Below.heap_setCell _ _ _ _ a];exact h
theorem Q8.push{d p:World}{b:Nat}{e T:TypeId}{s:Nat}{v:Value}{n g:Nat}{xs:List Value}(r:d.ownsRow b e s v n xs)(i:e≠T)(h:Q8 d g c T)
  (u:∀k,k<d.heap.size->some k≠v.ownBlock->p.heap[k]?=d.heap[k]?):Q8 p g c T:=by
 have l:=h.lt;unfold Q8 at *;rw[u g l ?_]
 ·exact h
 ·intro m;obtain⟨_,⟨j,_⟩|⟨x,q,o,f,_,a,_⟩⟩:=r
  ·subst j;cases m
  ·subst f;simp only[Value.ownBlock,zt] at m;subst m;rw[h] at a;simp at a;exact i a.2.symm
structure lf (vb:Nat) (w w':World):Prop where
 size:w.heap.size<=w'.heap.size
 box:∀b c T,b≠vb->T≠9->Q8 w b c T->Q8 w' b c T
theorem lf.trans{d:Nat}{a b c:World}(h:lf d a b)(k:lf d b c):lf d a c:=⟨yc h.size k.size,fun x y z e f g=>k.box x y z e f (h.box x y z e f g)⟩
theorem lf.of{a:Nat}{w':World}(h:μ w w'):lf a w w':=⟨h.size,fun _ _ _ _ _ k=>k.below h⟩
def VA(B:Nat)(w:World)(b:Nat)(vs:κ):Prop:=∃a,Q8 w b #[a] 246/\w.ownsRow B 9 1 a vs.length (vs.map Value.string)
theorem VA.below{B:Nat}{w w':World}{b:Nat}{vs:κ}(h:VA B w b vs)(a:μ w w'):VA B w' b vs:=by
 obtain⟨d,f,e⟩:=h;exact⟨d,f.below a,zB e a⟩
theorem DZ(vs args:κ)(k:Nat)(a:k<args.length):xk vs (args.take (k+1))=jD (xk vs (args.take k)) args[k]:=by
 unfold xk;rw[yL a,j8];rfl
theorem Fu(a:zP t=true)(b:xf t vs=false):jD vs t=vs++[t]:=by simp[jD,a,b]
theorem AL(a:zP t=false):jD vs t=vs:=by simp[jD,a]
theorem Cy(a:xf t vs=true):jD vs t=vs:=by simp[jD,a]
theorem RP(h w:World)(d:Nat)(vs args:κ)(neg:Bool)(r:ByteArray)(U:Value)(S:μ h w)(hs:QF lo h U args)(N:VA h.heap.size w d vs)(O:h.heap.size<=d)(hl:vs.length+args.length<=1000):
  Calls prog 182 #[(π d),.agg #[.bool neg,.string r,U]] w fun e p=>e=ε (.tuple #[])/\VA h.heap.size p d (xk vs args)/\μ h p/\lf d w p:=by
 obtain⟨i0,hi,L,I,G⟩:=info_parts Q0;obtain⟨ao,P,rfl⟩:=hs.qx;have Z:=S.size;go_enter func182,ntmps182;go_wp2;go_loopw [9] (fun i wr=>∃k:Nat,k<=args.length/\i=ι k/\VA h.heap.size wr d (xk vs (args.take k))/\μ h wr/\lf d w wr) (fun i _=>args.length-(intOf i).toNat)
 case atStart=>
  have H:=(zo w.heap.size w).alloc (zg _) (.cells #[.bool neg,.string r,.slice ao args.length P] 90);exact⟨0,zv _,rfl,N.below H,QB S H,lf.of H⟩
 case round=>
  obtain⟨k,hk,rfl,o,f,q⟩:=hrel;by_cases D:k<args.length
  ·obtain⟨g,rfl,hg,ab⟩:=(hs.below f).cell k D;have E:=DZ vs args k D;have y:=nB (args.take k) vs;have A:(args.take k).length=k:=by simp;omega
   rw[A] at y;clear A;generalize args[k]=t at *;generalize xk vs (args.take k)=n at *;have v:=Q7 E;clear E;cases Y:zP t with
   |false=>
    have s:xk vs (args.take (k+1))=n:=by rw[v.out,AL Y]
    have C:=Q7 s;clear s v;go_wp2_with (go_at_call 156;refine(fU _ _).mono ?_;rintro e p ⟨rfl,rfl⟩)
    go_roundw
    ·exact⟨k+1,by omega,by go_num,by rw[C.out];exact o,f,q⟩
    ·simp[intOf];omega
   |true=>
    obtain⟨nv,m,a⟩:=o;obtain⟨ad,V,rfl⟩:=zp a;obtain⟨hc,hf⟩:=m.rules;cases X:xf t n with
    |true=>
     have s:xk vs (args.take (k+1))=n:=by rw[v.out,Cy X]
     have C:=Q7 s;clear s v;go_wp2_with (first|(go_at_call 156;refine(fU _ _).mono ?_;rintro e p ⟨rfl,rfl⟩)|(go_at_call 183;refine(wM _ d _ n t m a (by omega)).mono ?_;rintro e p ⟨rfl,rfl⟩))
     go_roundw
     ·exact⟨k+1,by omega,by go_num,by rw[C.out];exact⟨_,m,a⟩,f,q⟩
     ·simp[intOf];omega
    |false=>
     have s:xk vs (args.take (k+1))=n++[t]:=by rw[v.out,Fu Y X]
     have C:=Q7 s;clear s v;go_wp2_with (first|(go_at_call 156;refine(fU _ _).mono ?_;rintro e p ⟨rfl,rfl⟩)|(go_at_call 183;refine(wM _ d _ n t m a (by omega)).mono ?_;rintro e p ⟨rfl,rfl⟩)|(at_builtin;refine ki _ _ _ _ rfl (.tmp 25) (.tmp 27) 30 rfl h.heap.size 9 i0 _ 1 16 underlying30 hi L I G rfl (by decide) _ _ _ rfl a (zo _ _) _ _ rfl (by simp) rfl (by simp[Value.oneCell']) (by omega) (by omega) f.size ?_;intro v' M x J Q K B F;clear Q K;obtain⟨u,j,rfl⟩:=zp x;have l:=Q8.push a (by decide) m B;obtain⟨aa,ac⟩:=l.rules))
     have R:lf d p (M.setCell ⟨d,0,none⟩ (.slice u (n.length+1) j)):=⟨by simp[World.setCell];exact F,fun b c T h1 h2 h3=>(Q8.push a (Ne.symm h2) h3 B).set_ne h1 _ _⟩;have z:VA h.heap.size (M.setCell ⟨d,0,none⟩ (.slice u (n.length+1) j)) d (n++[t]):=⟨_,l.set 0 _,by
      have:=xO x ((QJ.refl d M).setCell 0 (.slice u (n.length+1) j)) l (by decide);simpa using this⟩
     go_roundw
     ·exact⟨k+1,by omega,by go_num,by rw[C.out];exact z,(f.trans J).setCell O _,q.trans R⟩
     ·simp[intOf];omega
  ·have W:args.take k=args:=xg (by omega);rw[W] at o;clear W;go_wp2;go_end0
   exact⟨rfl,o,f,q⟩
end
section
open Go.Proofs.Tryz
variable {lo:Nat}
theorem Rg.cell{w:World}{i:Option Addr}{n cap:Nat}{c:List zj}(h:Rg lo w (.slice i n cap) c)(k:Nat)(s:k<c.length):∃g b a,i=some ⟨g,0,none⟩/\g<w.heap.size ∧
  w.cell? ⟨g,k*3,none⟩=some (.bool c[k].neg)/\w.cell? ⟨g,k*3+1,none⟩=some (.string c[k].pred)/\w.cell? ⟨g,k*3+2,none⟩=some (.slice b c[k].args.length a)/\QF lo w (.slice b c[k].args.length a) c[k].args:=by
 obtain⟨t,r,m⟩:=h;obtain⟨g,j,e,_,p,d⟩:=yx r (by omega);simp at e;obtain⟨u,o,q,l,f⟩:=m.at k c[k] (by simp[s]);obtain⟨b,a,rfl⟩:=f.qx;exact⟨g,b,a,e.1,p,d _ _ o,d _ _ q,d _ _ l,f⟩
def kI(vs:κ)(l:zj):κ:=xk vs l.args
def vN(vs:κ)(l:zj):κ:=if l.neg then vs else xk vs l.args
def xM(c:zd):κ:=c.body.foldl kI (xk [] c.head.args)
def zw(c:zd):κ:=c.body.foldl vN []
def yS(a:List zj):Nat:=a.foldr (fun l n=>l.args.length+n) 0
theorem pW(b:List zj):∀k,k<b.length->yS (b.take k)+(b[k]?.map (·.args.length)).getD 0<=yS b:=by
 induction b with
 |nil=>intro k h;simp at h
 |cons a b c=>
  intro k h;cases k with
  |zero=>simp[yS]
  |succ k=>have:=c k (by simpa using h);simp[yS] at this ⊢;omega
theorem Ht(c:List zj)(a:zj):yS (c++[a])=yS c+a.args.length:=by
 induction c with
 |nil=>simp[yS]
 |cons b c d=>simp[yS] at d ⊢;omega
theorem Dq(b:List zj):∀vs:κ,(b.foldl kI vs).length<=vs.length+yS b:=by
 induction b with
 |nil=>intro vs;simp[yS]
 |cons a b c=>intro vs;have:=c (kI vs a);have:=nB a.args vs;simp[yS,kI] at *;omega
theorem tg(b:List zj):∀vs:κ,(b.foldl vN vs).length<=vs.length+yS b:=by
 induction b with
 |nil=>intro vs;simp[yS]
 |cons a b c=>
  intro vs;have d:=c (vN vs a);have e:=nB a.args vs;have f:(vN vs a).length<=vs.length+a.args.length:=by unfold vN;split<;>omega
  simp[yS] at *;omega
theorem MT(w:World)(c:zd)(O S:Value)(hs:QF lo w O c.head.args)(N:Rg lo w S c.body)(hl:c.head.args.length+yS c.body<=1000)(W:c.body.length<=1000):
  Calls prog 145 #[.agg #[.bool c.head.neg,.string c.head.pred,O,S]] w fun e T=>∃H,e=ε (.agg #[H])/\T.ownsRow w.heap.size 9 1 H (xM c).length ((xM c).map Value.string)/\μ w T:=by
 obtain⟨u,f,rfl⟩:=hs.qx;obtain⟨d,b,rfl⟩:=N.qx;have I:μ w (((w.alloc (.cells #[.bool c.head.neg,.string c.head.pred,.slice u c.head.args.length f,.slice d c.body.length b] 171)).alloc (.cells #[ν] 246)).alloc (.cells #[ν] 246)):=(by go_grown);have B:VA w.heap.size (((w.alloc (.cells #[.bool c.head.neg,.string c.head.pred,.slice u c.head.args.length f,.slice d c.body.length b] 171)).alloc (.cells #[ν] 246)).alloc (.cells #[ν] 246)) (w.heap.size+2) []:=⟨_,by have:=Q8.new ((w.alloc (.cells #[.bool c.head.neg,.string c.head.pred,.slice u c.head.args.length f,.slice d c.body.length b] 171)).alloc (.cells #[ν] 246)) #[ν] 246;simpa using this,yD _ _ _ _⟩;have r:Q8 (((w.alloc (.cells #[.bool c.head.neg,.string c.head.pred,.slice u c.head.args.length f,.slice d c.body.length b] 171)).alloc (.cells #[ν] 246)).alloc (.cells #[ν] 246)) (w.heap.size+1) #[ν] 246:=by have:=(Q8.new (w.alloc (.cells #[.bool c.head.neg,.string c.head.pred,.slice u c.head.args.length f,.slice d c.body.length b] 171)) #[ν] 246).below ((zo _ _).alloc (zg _) (.cells #[ν] 246));simpa using this
 have C:Q8 (((w.alloc (.cells #[.bool c.head.neg,.string c.head.pred,.slice u c.head.args.length f,.slice d c.body.length b] 171)).alloc (.cells #[ν] 246)).alloc (.cells #[ν] 246)) w.heap.size #[.bool c.head.neg,.string c.head.pred,.slice u c.head.args.length f,.slice d c.body.length b] 171:=((Q8.new w _ _).below zT).below zT;go_enter func145,ntmps145;go_wp2_with (go_at_call 182;refine(RP w _ (w.heap.size+2) [] c.head.args _ _ _ (by exact I) hs (by exact B) (by omega) (by simp;omega)).mono ?_;rintro e w1 ⟨rfl,j,x,o⟩;have h:=o.box _ _ _ (by omega) (by decide) r;have G:=o.box _ _ _ (by omega) (by decide) C;obtain⟨ac,X,U⟩:=G.boxed)
 go_loopw [12] (fun i wr=>∃k:Nat,k<=c.body.length/\i=ι k/\VA w.heap.size wr (w.heap.size+2) ((c.body.take k).foldl kI (xk [] c.head.args))/\μ w wr/\Q8 wr (w.heap.size+1) #[ν] 246) (fun i _=>c.body.length-(intOf i).toNat)
 case atStart=>exact⟨0,zv _,rfl,j,x,h⟩
 case round=>
  obtain⟨k,hk,rfl,t,l,s⟩:=hrel;have V:=l.size;by_cases m:k<c.body.length
  ·obtain⟨g,af,Q,rfl,K,F,A,n,M⟩:=N.cell k m;have aa:=zl l K F;have ad:=zl l K A;have ae:=zl l K n;have Y:g<wr.heap.size:=by omega
   have P:=Dq (c.body.take k) (xk [] c.head.args);have z:=pW c.body k m;have L:=nB c.head.args [];have E:(c.body.take (k+1)).foldl kI (xk [] c.head.args)=kI ((c.body.take k).foldl kI (xk [] c.head.args)) c.body[k]:=by rw[yL m,j8];rfl
   rw[yp m] at z;simp only[jA,ux] at z;clear F A n;generalize c.body[k]=a at *;generalize (c.body.take k).foldl kI (xk [] c.head.args)=vk at *;have HS:=Q7 E;clear E;go_wp2_with (go_at_call 182;refine(RP w _ (w.heap.size+2) vk a.args _ _ _ (by exact(by go_grown)) M (by exact t.below (by go_grown)) (by omega) (by simp at *;omega)).mono ?_;rintro e w1 ⟨rfl,j,x,o⟩;have h:=o.box _ _ _ (by omega) (by decide) (s.below (by go_grown)))
   go_roundw
   ·exact⟨k+1,by omega,by go_num,by rw[HS.out];exact j,x,h⟩
   ·simp[intOf];omega
  ·have R:c.body.take k=c.body:=xg (by omega);rw[R] at t;obtain⟨H,D,q⟩:=t;obtain⟨y,p,rfl⟩:=zp q;obtain⟨hc,hf⟩:=D.rules;obtain⟨n,ab⟩:=s.rules;have Z:=D.lt;clear R;go_wp2;have J:=xO q ((QJ.refl (w.heap.size+1) wr).setCell 0 (.slice y (c.body.foldl kI (xk [] c.head.args)).length p)) s (by decide);exact zK (v:=.agg #[.slice y (c.body.foldl kI (xk [] c.head.args)).length p]) (by simp[results,results145,go_sem,n]) rfl ⟨_,rfl,J,(by go_grown)⟩
theorem Ae(w:World)(c:zd)(R V:Value)(hs:QF lo w R c.head.args)(Q:Rg lo w V c.body)(hl:c.head.args.length+yS c.body<=1000)(Z:c.body.length<=1000):
  Calls prog 148 #[.agg #[.bool c.head.neg,.string c.head.pred,R,V]] w fun e W=>∃G,e=ε (.agg #[G])/\W.ownsRow w.heap.size 9 1 G (zw c).length ((zw c).map Value.string)/\μ w W:=by
 obtain⟨r,f,rfl⟩:=hs.qx;obtain⟨d,b,rfl⟩:=Q.qx;have H:μ w (((w.alloc (.cells #[.bool c.head.neg,.string c.head.pred,.slice r c.head.args.length f,.slice d c.body.length b] 171)).alloc (.cells #[ν] 246)).alloc (.cells #[ν] 246)):=(by go_grown);have B:VA w.heap.size (((w.alloc (.cells #[.bool c.head.neg,.string c.head.pred,.slice r c.head.args.length f,.slice d c.body.length b] 171)).alloc (.cells #[ν] 246)).alloc (.cells #[ν] 246)) (w.heap.size+2) []:=⟨_,by have:=Q8.new ((w.alloc (.cells #[.bool c.head.neg,.string c.head.pred,.slice r c.head.args.length f,.slice d c.body.length b] 171)).alloc (.cells #[ν] 246)) #[ν] 246;simpa using this,yD _ _ _ _⟩;have q:Q8 (((w.alloc (.cells #[.bool c.head.neg,.string c.head.pred,.slice r c.head.args.length f,.slice d c.body.length b] 171)).alloc (.cells #[ν] 246)).alloc (.cells #[ν] 246)) (w.heap.size+1) #[ν] 246:=by have:=(Q8.new (w.alloc (.cells #[.bool c.head.neg,.string c.head.pred,.slice r c.head.args.length f,.slice d c.body.length b] 171)) #[ν] 246).below ((zo _ _).alloc (zg _) (.cells #[ν] 246));simpa using this
 have X:Q8 (((w.alloc (.cells #[.bool c.head.neg,.string c.head.pred,.slice r c.head.args.length f,.slice d c.body.length b] 171)).alloc (.cells #[ν] 246)).alloc (.cells #[ν] 246)) w.heap.size #[.bool c.head.neg,.string c.head.pred,.slice r c.head.args.length f,.slice d c.body.length b] 171:=((Q8.new w _ _).below zT).below zT;go_enter func148,ntmps148;go_wp2;go_loopw [9] (fun i wr=>∃k:Nat,k<=c.body.length/\i=ι k/\VA w.heap.size wr (w.heap.size+2) ((c.body.take k).foldl vN [])/\μ w wr/\Q8 wr (w.heap.size+1) #[ν] 246) (fun i _=>c.body.length-(intOf i).toNat)
 case atStart=>exact⟨0,zv _,rfl,B,H,q⟩
 case round=>
  obtain⟨k,hk,rfl,l,h,j⟩:=hrel;have Y:=h.size;by_cases m:k<c.body.length
  ·obtain⟨g,af,T,rfl,K,E,A,n,M⟩:=Q.cell k m;have x:=zl h K E;have ad:=zl h K A;have ae:=zl h K n;have ab:g<wr.heap.size:=by omega
   have S:=tg (c.body.take k) [];have y:=pW c.body k m;have L:True:=trivial;have D:(c.body.take (k+1)).foldl vN []=vN ((c.body.take k).foldl vN []) c.body[k]:=by rw[yL m,j8];rfl
   rw[yp m] at y;simp only[jA,ux] at y;clear E A n;generalize c.body[k]=a at *;generalize (c.body.take k).foldl vN []=O at *;have F:=Q7 D;clear D;cases t:a.neg with
   |true=>
    rw[t] at x;have J:Hid ((c.body.take (k+1)).foldl vN []=O):=by rw[Hid,F.out,vN,t,zc rfl]
    clear F t;go_wp2;go_roundw
    ·exact⟨k+1,by omega,by go_num,by rw[J.out];exact l.below (by go_grown),(by go_grown),j.below (by go_grown)⟩
    ·simp[intOf];omega
   |false=>
    rw[t] at x;have J:Hid ((c.body.take (k+1)).foldl vN []=xk O a.args):=by rw[Hid,F.out,vN,t];rfl
    clear F t;go_wp2_with (go_at_call 182;refine(RP w _ (w.heap.size+2) O a.args _ _ _ (by exact(by go_grown)) M (by exact l.below (by go_grown)) (by omega) (by simp at *;omega)).mono ?_;rintro e w1 ⟨rfl,z,N,P⟩;have s:=P.box _ _ _ (by omega) (by decide) (j.below (by go_grown)))
    go_roundw
    ·exact⟨k+1,by omega,by go_num,by rw[J.out];exact z,N,s⟩
    ·simp[intOf];omega
  ·have U:c.body.take k=c.body:=xg (by omega);rw[U] at l;obtain⟨G,C,p⟩:=l;obtain⟨u,o,rfl⟩:=zp p;obtain⟨hc,hf⟩:=C.rules;obtain⟨n,ac⟩:=j.rules;have aa:=C.lt;clear U;go_wp2;have I:=xO p ((QJ.refl (w.heap.size+1) wr).setCell 0 (.slice u (c.body.foldl vN []).length o)) j (by decide);exact zK (v:=.agg #[.slice u (c.body.foldl vN []).length o]) (by simp[results,results148,go_sem,n]) rfl ⟨_,rfl,I,(by go_grown)⟩
theorem Sk(w:World)(c:Nat)(b:Value)(vs:κ)(a:Q8 w c #[b] 246)(hs:QF lo w b vs):
  Calls prog 146 #[(π c)] w fun e f=>e=ε (ι vs.length)/\f=w:=by
 obtain⟨g,h⟩:=a.rules;obtain⟨i,d,rfl⟩:=hs.qx;go_enter func146,ntmps146;go_wp2;go_ret;exact⟨rfl,rfl⟩
def qr(vs args:κ):Bool:=args.all fun t=>!zP t||xf t vs
theorem oJ{α:Type}(l:List α)(p:α->Bool)(k:Nat)(a:k<l.length):(l.drop k).all p=(p l[k]&&(l.drop (k+1)).all p):=by rw[xn a,List.all_cons]
theorem ip{α:Type}(l:List α)(p:α->Bool)(k:Nat)(a:k<l.length):(l.drop k).any p=(p l[k]||(l.drop (k+1)).any p):=by rw[xn a,List.any_cons]
theorem wT(w:World)(m:Nat)(r:Value)(vs args:κ)(neg:Bool)(c:ByteArray)(s:Value)(j:Q8 w m #[r] 246)(A:QF lo w r vs){o:Nat}(hs:QF o w s args)(u:vs.length<=1000)(z:args.length<=1000):
  Calls prog 149 #[(π m),.agg #[.bool neg,.string c,s]] w fun e f=>e=ε (.bool (qr vs args))/\μ w f:=by
 obtain⟨C,p,rfl⟩:=hs.qx;have b:=(zo w.heap.size w).alloc (zg _) (.cells #[.bool neg,.string c,.slice C args.length p] 90);have a:=j.below b;have l:=A.below b;go_enter func149,ntmps149;go_wp2;go_loop [10] (fun i=>∃k:Nat,k<=args.length/\i=ι k/\Hid (qr vs args=(args.drop k).all fun t=>!zP t||xf t vs)) (fun i=>args.length-(intOf i).toNat)
 case atStart=>exact⟨0,zv _,rfl,rfl⟩
 case round=>
  obtain⟨k,D,rfl,H⟩:=hrel;by_cases h:k<args.length
  ·obtain⟨g,rfl,E,B⟩:=hs.cell k h;have n:=oJ args (fun t=>!zP t||xf t vs) k h;generalize args[k]=x at *;have q:Hid (qr vs args=((!zP x||xf x vs)&&(args.drop (k+1)).all fun t=>!zP t||xf t vs)):=by rw[Hid,H.out,n]
   cases y:zP x with
   |false=>
    have d:Hid (qr vs args=(args.drop (k+1)).all fun t=>!zP t||xf t vs):=by rw[Hid,q.out,y];rfl
    go_wp2_with (go_at_call 156;refine(fU _ _).mono ?_;rintro e f ⟨rfl,rfl⟩)
    go_round
    ·exact⟨k+1,by omega,by go_num,d⟩
    ·simp[intOf];omega
   |true=>
    cases v:xf x vs with
    |true=>
     have d:Hid (qr vs args=(args.drop (k+1)).all fun t=>!zP t||xf t vs):=by rw[Hid,q.out,v];simp
     go_wp2_with (first|(go_at_call 156;refine(fU _ _).mono ?_;rintro e f ⟨rfl,rfl⟩)|(go_at_call 183;refine(wM _ m _ vs x a l u).mono ?_;rintro e f ⟨rfl,rfl⟩))
     go_round
     ·exact⟨k+1,by omega,by go_num,d⟩
     ·simp[intOf];omega
    |false=>
     have d:Hid (qr vs args=false):=by rw[Hid,q.out,v,y];rfl
     go_wp2_with (first|(go_at_call 156;refine(fU _ _).mono ?_;rintro e f ⟨rfl,rfl⟩)|(go_at_call 183;refine(wM _ m _ vs x a l u).mono ?_;rintro e f ⟨rfl,rfl⟩))
     go_ret;exact⟨by rw[d.out];rfl,b⟩
  ·have d:Hid (qr vs args=true):=by rw[Hid,H.out,uj (by omega)];rfl
   go_wp2;go_ret;exact⟨by rw[d.out];rfl,b⟩
def yE(c:zd):Bool:=decide (3<c.head.args.length)||decide (6<c.body.length)||c.body.any (fun l=>decide (3<l.args.length))||decide (5<(xM c).length)
def xo(c:zd):Bool:=qr (zw c) c.head.args&&c.body.all fun l=>!l.neg||qr (zw c) l.args
theorem Cb(w:World)(c:zd)(A D:Value)(hs:QF lo w A c.head.args)(z:Rg lo w D c.body)(X:c.head.args.length+yS c.body<=1000)(x:c.body.length<=1000):
  Calls prog 101 #[.agg #[.bool c.head.neg,.string c.head.pred,A,D]] w fun e Y=>e=ε (.bool (yE c))/\μ w Y:=by
 have d:=fun W F J=>MT (lo:=lo) W c A D F J X x;obtain⟨Z,K,rfl⟩:=hs.qx;obtain⟨y,n,rfl⟩:=z.qx;have q:=Q7 d;clear d;by_cases h:3<c.head.args.length∨6<c.body.length
 ·have j:Hid (yE c=true):=by unfold Hid yE;rcases h with h|h<;>simp[h]
  go_enter func101,ntmps101;rcases h with h|h
  ·go_wp2;go_ret;exact⟨by rw[j.out];rfl,(by go_grown)⟩
  ·by_cases R:3<c.head.args.length
   all_goals
    go_wp2;go_ret;exact⟨by rw[j.out];rfl,(by go_grown)⟩
 ·have R:¬3<c.head.args.length:=by omega
  have h6:¬6<c.body.length:=by omega
  have j:Hid (yE c=(c.body.any (fun l=>decide (3<l.args.length))||decide (5<(xM c).length))):=by unfold Hid yE;simp[R,h6]
  clear h;go_enter func101,ntmps101;go_wp2;go_loopw [20] (fun i wr=>∃k:Nat,k<=c.body.length/\i=ι k/\μ w wr/\Q8 wr w.heap.size #[.bool c.head.neg,.string c.head.pred,.slice Z c.head.args.length K,.slice y c.body.length n] 171/\Hid (yE c=((c.body.drop k).any (fun l=>decide (3<l.args.length))||decide (5<(xM c).length)))) (fun i _=>c.body.length-(intOf i).toNat)
  case atStart=>exact⟨0,zv _,rfl,(by go_grown),Q8.new _ _ _,j⟩
  case round=>
   obtain⟨k,hk,rfl,b,r,H⟩:=hrel;have Q:=b.size;by_cases s:k<c.body.length
   ·obtain⟨g,ac,N,rfl,G,u,p,t,I⟩:=z.cell k s;have V:=zl b G u;have aa:=zl b G p;have ab:=zl b G t;have S:g<wr.heap.size:=by omega
    have m:=ip c.body (fun l=>decide (3<l.args.length)) k s;clear u p t I;generalize c.body[k]=a at *;have v:Hid (yE c=(decide (3<a.args.length)||(c.body.drop (k+1)).any (fun l=>decide (3<l.args.length))||decide (5<(xM c).length))):=by rw[Hid,H.out,m]
    clear m H j;by_cases P:3<a.args.length
    ·have o:Hid (yE c=true):=by rw[Hid,v.out];simp[P]
     clear v;go_wp2;go_ret;exact⟨by rw[o.out];rfl,(by go_grown)⟩
    ·have o:Hid (yE c=((c.body.drop (k+1)).any (fun l=>decide (3<l.args.length))||decide (5<(xM c).length))):=by rw[Hid,v.out];simp[P]
     clear v;go_wp2;go_roundw
     ·exact⟨k+1,by omega,by go_num,(by go_grown),r.below (by go_grown),o⟩
     ·simp[intOf];omega
   ·have o:Hid (yE c=decide (5<(xM c).length)):=by rw[Hid,H.out,uj (by omega)];simp
    have E:=hs.below b;have B:=z.below b;obtain⟨hc,hf,O⟩:=r.boxed;clear H j;go_wp2_with (first|(go_at_call 145;refine(q.out _ E B).mono ?_;rintro e w1 ⟨nv,rfl,f,L⟩;obtain⟨U,M,rfl⟩:=zp f;have C:=QB b L;have T:=C.size)|(go_at_call 146;refine(Sk _ _ _ (xM c) (by exact Q8.new _ _ _) (by exact zB f (by go_grown))).mono ?_;rintro e w2 ⟨rfl,rfl⟩))
    go_ret;exact⟨by rw[o.out];simp;omega,(by go_grown)⟩
theorem E8(w:World)(c:zd)(Y Z:Value)(hs:QF lo w Y c.head.args)(T:Rg lo w Z c.body)(hl:c.head.args.length+yS c.body<=1000)(V:c.body.length<=1000):
  Calls prog 103 #[.agg #[.bool c.head.neg,.string c.head.pred,Y,Z]] w fun e w'=>e=ε (.bool (xo c))/\μ w w':=by
 have v:=fun W ab ad=>Ae (lo:=lo) W c Y Z ab ad hl V;obtain⟨ao,am,rfl⟩:=hs.qx;obtain⟨aj,ag,rfl⟩:=T.qx;have x:=Q7 v;clear v;have r:(zw c).length<=1000:=by have:=tg c.body [];unfold zw;simp at this;omega
 have n:∀k (U:k<c.body.length),c.body[k].args.length<=1000:=fun k U=>by
  have:=pW c.body k U;rw[yp U] at this;simp at this;omega
 have I:=Q7 n;clear n;cases hH:qr (zw c) c.head.args with
 |false=>
  have S:Hid (xo c=false):=by unfold Hid xo;simp[hH]
  go_enter func103,ntmps103;go_wp2_with (first|(go_at_call 148;refine(x.out _ (by exact hs.below (by go_grown)) (by exact T.below (by go_grown))).mono ?_;rintro e w1 ⟨nv,rfl,b,o⟩;obtain⟨A,m,rfl⟩:=zp b;have h:=QB zT o;have z:=h.size;have j:=(Q8.new w _ _).below o;obtain⟨ac,X,O⟩:=j.boxed)|(go_at_call 149;refine(wT _ _ _ (zw c) c.head.args _ _ _ (by exact Q8.new _ _ _) (by exact zB b (by go_grown)) (by exact(hs.below h).below (by go_grown)) r (by omega)).mono ?_;rintro e w2 ⟨rfl,f⟩;have B:=QB (h.alloc z _) f))
  go_ret;exact⟨by rw[S.out];rfl,B⟩
 |true=>
  have S:Hid (xo c=c.body.all fun l=>!l.neg||qr (zw c) l.args):=by unfold Hid xo;simp[hH]
  go_enter func103,ntmps103;go_wp2_with (first|(go_at_call 148;refine(x.out _ (by exact hs.below (by go_grown)) (by exact T.below (by go_grown))).mono ?_;rintro e w1 ⟨nv,rfl,b,o⟩;obtain⟨A,m,rfl⟩:=zp b;have h:=QB zT o;have z:=h.size;have j:=(Q8.new w _ _).below o;obtain⟨ac,X,O⟩:=j.boxed)|(go_at_call 149;refine(wT _ _ _ (zw c) c.head.args _ _ _ (by exact Q8.new _ _ _) (by exact zB b (by go_grown)) (by exact(hs.below h).below (by go_grown)) r (by omega)).mono ?_;rintro e w2 ⟨rfl,f⟩;have B:=QB (h.alloc z _) f;have ae:=f.size;simp only[World.size_alloc] at ae;have M:=(j.below zT).below f;obtain⟨al,ak,aa⟩:=M.boxed;have L:=(Q8.new w1 _ _).below f;have C:=zB (zB b zT) f))
  go_loopw [15] (fun i wr=>∃k:Nat,k<=c.body.length/\i=ι k/\μ w wr/\Q8 wr w1.heap.size #[.slice A (zw c).length m] 246/\QF 0 wr (.slice A (zw c).length m) (zw c)/\Hid (xo c=(c.body.drop k).all fun l=>!l.neg||qr (zw c) l.args)) (fun i _=>c.body.length-(intOf i).toNat)
  case atStart=>exact⟨0,zv _,rfl,B,L,yt C (zv _),S⟩
  case round=>
   obtain⟨k,U,rfl,d,s,q,H⟩:=hrel;have ah:=d.size;by_cases G:k<c.body.length
   ·obtain⟨g,aq,af,rfl,hg,R,y,t,P⟩:=T.cell k G;have N:=zl d hg R;have an:=zl d hg y;have ap:=zl d hg t;have ai:g<wr.heap.size:=by omega
    have K:=oJ c.body (fun l=>!l.neg||qr (zw c) l.args) k G;have u:=P.below d;have Q:=I.out k G;clear R y t P;generalize c.body[k]=a at *;have J:Hid (xo c=((!a.neg||qr (zw c) a.args)&&(c.body.drop (k+1)).all fun l=>!l.neg||qr (zw c) l.args)):=by rw[Hid,H.out,K]
    clear K H S;cases E:a.neg with
    |false=>
     have D:Hid (xo c=(c.body.drop (k+1)).all fun l=>!l.neg||qr (zw c) l.args):=by rw[Hid,J.out,E];rfl
     rw[E] at N;clear J E;go_wp2;go_roundw
     ·exact⟨k+1,by omega,by go_num,(by go_grown),s.below (by go_grown),q.below (by go_grown),D⟩
     ·simp[intOf];omega
    |true=>
     rw[E] at N;cases hC:qr (zw c) a.args with
     |true=>
      have D:Hid (xo c=(c.body.drop (k+1)).all fun l=>!l.neg||qr (zw c) l.args):=by rw[Hid,J.out,hC];simp
      clear J E;go_wp2_with (go_at_call 149;refine(wT _ _ _ (zw c) a.args _ _ _ (by exact s.below (by go_grown)) (by exact q.below (by go_grown)) (by exact u.below (by go_grown)) r Q).mono ?_;rintro e w3 ⟨rfl,F⟩;have p:=QB ((zo wr.heap.size wr).alloc (zg _) _) F)
      go_roundw
      ·exact⟨k+1,by omega,by go_num,QB d p,s.below p,q.below p,D⟩
      ·simp[intOf];omega
     |false=>
      have D:Hid (xo c=false):=by rw[Hid,J.out,hC,E];rfl
      clear J E;go_wp2_with (go_at_call 149;refine(wT _ _ _ (zw c) a.args _ _ _ (by exact s.below (by go_grown)) (by exact q.below (by go_grown)) (by exact u.below (by go_grown)) r Q).mono ?_;rintro e w3 ⟨rfl,F⟩;have p:=QB ((zo wr.heap.size wr).alloc (zg _) _) F)
      go_ret;exact⟨by rw[D.out];rfl,QB d p⟩
   ·have D:Hid (xo c=true):=by rw[Hid,H.out,uj (by omega)];rfl
    clear H S;go_wp2;go_ret;exact⟨by rw[D.out];rfl,d⟩
theorem Rl.cell{T:TypeId}{w:World}{l:Option Addr}{n cap:Nat}{cs:List zd}(h:Rl lo T w (.slice l n cap) cs)(k:Nat)(s:k<cs.length):∃g e b d a,l=some ⟨g,0,none⟩/\g<w.heap.size ∧
  w.cell? ⟨g,k*4,none⟩=some (.bool cs[k].head.neg)/\w.cell? ⟨g,k*4+1,none⟩=some (.string cs[k].head.pred)/\w.cell? ⟨g,k*4+2,none⟩=some (.slice e cs[k].head.args.length b) ∧
  w.cell? ⟨g,k*4+3,none⟩=some (.slice d cs[k].body.length a)/\QF lo w (.slice e cs[k].head.args.length b) cs[k].head.args/\Rg lo w (.slice d cs[k].body.length a) cs[k].body:=by
 obtain⟨y,v,u⟩:=h;obtain⟨g,f,i,_,t,c⟩:=yx v (by omega);simp at i;obtain⟨x,z,q,r,o,p,m,j⟩:=u.at k cs[k] (by simp[s]);obtain⟨e,b,rfl⟩:=m.qx;obtain⟨d,a,rfl⟩:=j.qx;exact⟨g,e,b,d,a,i.1,t,c _ _ q,c _ _ r,c _ _ o,c _ _ p,m,j⟩
def vP(c:zd):Prop:=c.head.args.length+yS c.body<=1000/\c.body.length<=1000
theorem rt(w:World)(v:Value)(cs:List zd)(m:Rl lo 171 w v cs)(u:∀c∈cs,vP c)(R:cs.length<=1000):
  Calls prog 61 #[v] w fun e L=>e=ε (.bool (cs.any yE))/\μ w L:=by
 obtain⟨T,N,rfl⟩:=m.qx;have t:=Q7 u;go_enter func61,ntmps61;go_wp2;go_loopw [7] (fun i wr=>∃k:Nat,k<=cs.length/\i=ι k/\μ w wr/\Hid (cs.any yE=(cs.drop k).any yE)) (fun i _=>cs.length-(intOf i).toNat)
 case atStart=>exact⟨0,zv _,rfl,zo _ _,rfl⟩
 case round=>
  obtain⟨k,S,rfl,b,H⟩:=hrel;have G:=b.size;by_cases j:k<cs.length
  ·have r:=ip cs yE k j;obtain⟨g,Q,D,I,C,rfl,q,B,y,A,s,z,x⟩:=m.cell k j;have J:=zl b q B;have O:=zl b q y;have P:=zl b q A;have K:=zl b q s;have d:=z.below b;have f:=x.below b;obtain⟨p,n⟩:=t.out _ (zs j);generalize cs[k]=a at *;have F:Hid (cs.any yE=(yE a||(cs.drop (k+1)).any yE)):=by rw[Hid,H.out,r]
   cases E:yE a with
   |true=>
    have o:Hid (cs.any yE=true):=by rw[Hid,F.out,E];rfl
    go_wp2_with (go_at_call 101;refine(Cb _ a _ _ (by exact d.below (by go_grown)) (by exact f.below (by go_grown)) p n).mono ?_;rintro e M ⟨rfl,l⟩;have h:=QB ((zo wr.heap.size wr).alloc (zg _) _) l)
    go_ret;exact⟨by rw[o.out];rfl,QB b h⟩
   |false=>
    have o:Hid (cs.any yE=(cs.drop (k+1)).any yE):=by rw[Hid,F.out,E];rfl
    go_wp2_with (go_at_call 101;refine(Cb _ a _ _ (by exact d.below (by go_grown)) (by exact f.below (by go_grown)) p n).mono ?_;rintro e M ⟨rfl,l⟩;have h:=QB ((zo wr.heap.size wr).alloc (zg _) _) l)
    go_roundw
    ·exact⟨k+1,by omega,by go_num,QB b h,o⟩
    ·simp[intOf];omega
  ·have o:Hid (cs.any yE=false):=by rw[Hid,H.out,uj (by omega)];rfl
   go_wp2;go_ret;exact⟨by rw[o.out];rfl,b⟩
theorem eT(w:World)(v:Value)(cs:List zd)(m:Rl lo 171 w v cs)(u:∀c∈cs,vP c)(R:cs.length<=1000):
  Calls prog 63 #[v] w fun e L=>e=ε (.bool (cs.all xo))/\μ w L:=by
 obtain⟨T,N,rfl⟩:=m.qx;have t:=Q7 u;go_enter func63,ntmps63;go_wp2;go_loopw [7] (fun i wr=>∃k:Nat,k<=cs.length/\i=ι k/\μ w wr/\Hid (cs.all xo=(cs.drop k).all xo)) (fun i _=>cs.length-(intOf i).toNat)
 case atStart=>exact⟨0,zv _,rfl,zo _ _,rfl⟩
 case round=>
  obtain⟨k,S,rfl,b,H⟩:=hrel;have G:=b.size;by_cases j:k<cs.length
  ·have r:=oJ cs xo k j;obtain⟨g,Q,D,I,C,rfl,q,B,y,A,s,z,x⟩:=m.cell k j;have J:=zl b q B;have O:=zl b q y;have P:=zl b q A;have K:=zl b q s;have d:=z.below b;have f:=x.below b;obtain⟨p,n⟩:=t.out _ (zs j);generalize cs[k]=a at *;have F:Hid (cs.all xo=(xo a&&(cs.drop (k+1)).all xo)):=by rw[Hid,H.out,r]
   cases E:xo a with
   |false=>
    have o:Hid (cs.all xo=false):=by rw[Hid,F.out,E];rfl
    go_wp2_with (go_at_call 103;refine(E8 _ a _ _ (by exact d.below (by go_grown)) (by exact f.below (by go_grown)) p n).mono ?_;rintro e M ⟨rfl,l⟩;have h:=QB ((zo wr.heap.size wr).alloc (zg _) _) l)
    go_ret;exact⟨by rw[o.out];rfl,QB b h⟩
   |true=>
    have o:Hid (cs.all xo=(cs.drop (k+1)).all xo):=by rw[Hid,F.out,E];rfl
    go_wp2_with (go_at_call 103;refine(E8 _ a _ _ (by exact d.below (by go_grown)) (by exact f.below (by go_grown)) p n).mono ?_;rintro e M ⟨rfl,l⟩;have h:=QB ((zo wr.heap.size wr).alloc (zg _) _) l)
    go_roundw
    ·exact⟨k+1,by omega,by go_num,QB b h,o⟩
    ·simp[intOf];omega
  ·have o:Hid (cs.all xo=true):=by rw[Hid,H.out,uj (by omega)];rfl
   go_wp2;go_ret;exact⟨by rw[o.out];rfl,b⟩
end
section
open Go.Proofs.Tryz
structure zh where
 name:ByteArray
 jh:Nat
 qh:Nat
def Ra(a b:ByteArray):Bool:=Op.bytesLess a.toList b.toList
def zV:List zh->ByteArray->Nat
 |[],_=>0
 |e::r,n=>if Ra e.name n then zV r n+1 else 0
theorem iX:∀(t:List zh) (n:ByteArray),zV t n<=t.length
 |[],_=>zg _
 |e::r,n=>by have:=iX r n;unfold zV;split<;>simp<;>omega
theorem oP:∀(t:List zh) (n:ByteArray) (k:Nat),(∀j (b:j<t.length),j<k->Ra t[j].name n=true)->k<=t.length->zV t n=k+zV (t.drop k) n
 |[],n,k,_,a=>by simp at a;subst a;simp
 |e::r,n,0,_,_=>by simp
 |e::r,n,k+1,h,a=>by
  have c:=h 0 (by simp) (by omega);simp at c;have:=oP r n k (fun j b d=>by have:=h (j+1) (by simpa using b) (by omega);simpa using this) (by simpa using a);simp[zV,c];omega
theorem Ak(t:List zh)(n:ByteArray)(k:Nat)(h:∀j (c:j<t.length),j<k->Ra t[j].name n=true)(b:k<t.length)(a:Ra t[k].name n=false):zV t n=k:=by
 rw[oP t n k h (by omega),xn b,zV,a];rfl
theorem Cv(t:List zh)(n:ByteArray)(h:∀j (a:j<t.length),Ra t[j].name n=true):zV t n=t.length:=by
 rw[oP t n t.length (fun j a _=>h j a) (zg _)];simp[zV]
def xZ(t:List zh):List Value:=t.flatMap fun e=>[.string e.name,ι (e.jh:Int),ι (e.qh:Int)]
theorem iT(t:List zh):(xZ t).length=t.length*3:=by
 induction t with
 |nil=>rfl
 |cons a t b=>simp[xZ] at b ⊢;omega
theorem C3:∀(t:List zh) (k:Nat) (a:k<t.length),(xZ t)[k*3]?=some (.string t[k].name)/\(xZ t)[k*3+1]?=some (ι (t[k].jh:Int))/\(xZ t)[k*3+2]?=some (ι (t[k].qh:Int))
 |[],k,a=>by simp at a
 |e::r,0,_=>by simp[xZ]
 |e::r,k+1,a=>by
  have:=C3 r k (by simpa using a);simp only[xZ,us] at this ⊢;rw[show(k+1)*3=k*3+1+1+1 from by omega,show k*3+1+1+1+1=k*3+1+1+1+1 from rfl,show k*3+1+1+1+2=k*3+2+1+1+1 from by omega];simpa using this
def TA(B:Nat)(w:World)(tb:Nat)(t:List zh):Prop:=∃a,Q8 w tb #[a] 127/\w.ownsRow B 221 3 a t.length (xZ t)
theorem TA.below{B:Nat}{w w':World}{tb:Nat}{t:List zh}(h:TA B w tb t)(a:μ w w'):TA B w' tb t:=by
 obtain⟨b,c,d⟩:=h;exact⟨b,c.below a,zB d a⟩
theorem TA.view{B:Nat}{w:World}{tb:Nat}{t:List zh}(h:TA B w tb t):∃b a,Q8 w tb #[.slice b t.length a] 127/\w.ownsRow B 221 3 (.slice b t.length a) t.length (xZ t):=by
 obtain⟨e,d,c⟩:=h;obtain⟨b,a,rfl⟩:=zp c;exact⟨b,a,d,c⟩
theorem kL{B:Nat}{w:World}{c:Option Addr}{n cap:Nat}{t:List zh}(h:w.ownsRow B 221 3 (.slice c n cap) t.length (xZ t))(k:Nat)(m:k<t.length):∃g,c=some ⟨g,0,none⟩/\g<w.heap.size/\B<=g ∧
  w.cell? ⟨g,k*3,none⟩=some (.string t[k].name)/\w.cell? ⟨g,k*3+1,none⟩=some (ι (t[k].jh:Int))/\w.cell? ⟨g,k*3+2,none⟩=some (ι (t[k].qh:Int)):=by
 obtain⟨g,d,b,f,j,a⟩:=yx h (by omega);simp at b;obtain⟨i,l,e⟩:=C3 t k m;exact⟨g,b.1,j,f,a _ _ i,a _ _ l,a _ _ e⟩
theorem we(B:Nat)(w:World)(tb:Nat)(t:List zh)(n:ByteArray)(h:TA B w tb t)(s:t.length<=1000):
  Calls prog 126 #[(π tb),.string n] w fun e p=>e=ε (ι (zV t n))/\p=w:=by
 obtain⟨y,o,l,d⟩:=h.view;obtain⟨r,v⟩:=l.rules;go_enter func126,ntmps126;go_wp2;go_loop [5] (fun i=>∃k:Nat,k<=t.length/\i=ι k/\Hid (∀j (a:j<t.length),j<k->Ra t[j].name n=true)) (fun i=>t.length-(intOf i).toNat)
 case atStart=>exact⟨0,zv _,rfl,fun j a h=>by omega⟩
 case round=>
  obtain⟨k,x,rfl,H⟩:=hrel;by_cases c:k<t.length
  ·obtain⟨g,rfl,u,_,q,_,_⟩:=kL d k c;cases f:Ra t[k].name n with
   |true=>
    have b:Hid (∀j (a:j<t.length),j<k+1->Ra t[j].name n=true):=fun j a h=>by
     rcases gV j k with m|m
     ·exact H.out j a m
     ·obtain rfl:j=k:=by omega
      exact f
    unfold Ra at f;go_wp2;go_round
    ·exact⟨k+1,by omega,by go_num,b⟩
    ·simp[intOf];omega
   |false=>
    have b:=Q7 (Ak t n k H.out c f);unfold Ra at f;go_wp2;go_ret;exact⟨by rw[b.out];rfl,rfl⟩
  ·have b:Hid (zV t n=k):=by
    have:=Cv t n (fun j a=>H.out j a (by omega));unfold Hid;omega
   go_wp2;go_ret;exact⟨by rw[b.out];rfl,rfl⟩
end
section
open Go.Proofs.Tryz
variable {xs:List Value}
theorem qO{w:World}{a:Nat}{e:TypeId}{b g n cap m:Nat}(h:w.ownsRow a e b (.slice (some ⟨g,0,none⟩) n cap) m xs)(o:Nat):w.frozen? ⟨g,o,none⟩=false:=by
 obtain⟨_,⟨c,_⟩|⟨j,d,f,c,_,i,_⟩⟩:=h
 ·cases c
 ·simp at c;obtain⟨rfl,_⟩:=c;unfold World.frozen?;rw[i];simp
theorem uW{w:World}{a:Nat}{e:TypeId}{b g n cap m:Nat}(h:w.ownsRow a e b (.slice (some ⟨g,0,none⟩) n cap) m xs)(j:Nat)(_:j<xs.length)(u:Value):
  (w.setCell ⟨g,j,none⟩ u).ownsRow a e b (.slice (some ⟨g,0,none⟩) n cap) m (xs.set j u):=by
 obtain⟨l,⟨c,_⟩|⟨s,f,d,c,o,k,r,q,p,i⟩⟩:=h
 ·cases c
 ·simp at c;obtain⟨rfl,rfl,rfl⟩:=c;refine⟨by simpa using l,zb ⟨g,cap,d.setIfInBounds j u,rfl,o,?_,r,q,by simpa using p,?_⟩⟩
  ·simp[World.setCell,Array.getElem?_modify,k]
  ·rw[←i];rw[Array.toList_setIfInBounds,List.take_set]
def yo(t:List zh)(n:ByteArray):Option zh:=match t[zV t n]? with
 |none=>none
 |some e=>if e.name=n then some e else none
theorem jV{t:List zh}{n:ByteArray}{e:zh}(h:yo t n=some e):∃b:zV t n<t.length,t[zV t n]=e/\e.name=n:=by
 unfold yo at h;split at h
 ·cases h
 ·rename_i c a;split at h<;>simp at h
  subst h;obtain⟨b,a⟩:=jX.1 a;exact⟨b,a,by assumption⟩
theorem tZ{t:List zh}{n:ByteArray}(h:yo t n=none):¬zV t n<t.length∨∃b:zV t n<t.length,t[zV t n].name≠n:=by
 unfold yo at h;split at h
 ·rename_i a;left;rw[List.getElem?_eq_none_iff] at a;omega
 ·rename_i e a;split at h<;>simp at h
  obtain⟨b,a⟩:=jX.1 a;right;exact⟨b,by rw[a];assumption⟩
theorem Fi(B:Nat)(w:World)(tb:Nat)(t:List zh)(n:ByteArray)(h:TA B w tb t)(m:t.length<=1000)(k:yo t n=none):
  Calls prog 77 #[(π tb),.string n] w fun e f=>e=ε (.tuple #[ι 0,.bool false])/\f=w:=by
 have d:=we B w tb t n h m;obtain⟨s,l,i,b⟩:=h.view;obtain⟨p,r⟩:=i.rules;have a:=Q7 d;rcases tZ k with j|⟨j,c⟩
 ·clear k;go_enter func77,ntmps77;go_wp2_with (go_at_call 126;refine a.out.mono ?_;rintro e f ⟨rfl,rfl⟩;clear a)
  go_ret2
  exact⟨rfl,rfl⟩
 ·obtain⟨g,rfl,q,_,o,_,_⟩:=kL b _ j;have u:=j5 c;go_enter func77,ntmps77;go_wp2_with (go_at_call 126;refine a.out.mono ?_;rintro e f ⟨rfl,rfl⟩;clear a)
  go_ret2
  exact⟨rfl,rfl⟩
theorem CM(B:Nat)(w:World)(tb:Nat)(t:List zh)(n:ByteArray)(o:zh)(h:TA B w tb t)(p:t.length<=1000)(q:yo t n=some o):
  Calls prog 77 #[(π tb),.string n] w fun e k=>e=ε (.tuple #[ι (zV t n),.bool true])/\k=w:=by
 have c:=we B w tb t n h p;obtain⟨x,l,j,b⟩:=h.view;obtain⟨s,v⟩:=j.rules;have a:=Q7 c;obtain⟨r,d,m⟩:=jV q;obtain⟨g,rfl,u,_,i,_,f⟩:=kL b _ r;rw[d] at i f;go_enter func77,ntmps77;go_wp2_with (go_at_call 126;refine a.out.mono ?_;rintro e k ⟨rfl,rfl⟩;clear a)
 go_ret2
 exact⟨rfl,rfl⟩
theorem FJ(B:Nat)(w:World)(tb:Nat)(t:List zh)(n:ByteArray)(h:TA B w tb t)(d:t.length<=1000)(c:yo t n=none):
  Calls prog 159 #[(π tb),.string n] w fun e b=>e=ε (.tuple #[ι 0,.bool false])/\b=w:=by
 have a:=Q7 (Fi B w tb t n h d c);clear h c d;go_enter func159,ntmps159;go_wp2_with (go_at_call 77;refine a.out.mono ?_;rintro e b ⟨rfl,rfl⟩;clear a)
 go_ret2
 exact⟨rfl,rfl⟩
theorem CP(B:Nat)(w:World)(tb:Nat)(t:List zh)(n:ByteArray)(b:zh)(h:TA B w tb t)(o:t.length<=1000)(f:yo t n=some b):
  Calls prog 159 #[(π tb),.string n] w fun e i=>e=ε (.tuple #[ι b.qh,.bool true])/\i=w:=by
 have d:=Q7 (CM B w tb t n b h o f);obtain⟨v,j,c,a⟩:=h.view;obtain⟨r,u⟩:=c.rules;obtain⟨l,m,k⟩:=jV f;obtain⟨g,rfl,s,_,q,_,p⟩:=kL a _ l;go_enter func159,ntmps159;go_wp2_with (go_at_call 77;refine d.out.mono ?_;rintro e i ⟨rfl,rfl⟩;clear d)
 go_ret2
 exact⟨rfl,rfl⟩
theorem B7:∀(t:List zh) (k:Nat) (e:zh) (b:k<t.length),t[k].name=e.name->t[k].jh=e.jh->(xZ t).set (k*3+2) (ι (e.qh:Int))=xZ (t.set k e)
 |[],k,_,b,_,_=>by simp at b
 |a::r,0,e,_,c,d=>by simp at c d;simp[xZ,c,d]
 |a::r,k+1,e,b,c,d=>by
  have:=B7 r k e (by simpa using b) (by simpa using c) (by simpa using d);simp only[xZ,us,ml] at this ⊢;rw[show(k+1)*3+2=k*3+2+1+1+1 from by omega];simpa using this
def x6(t:List zh)(n:ByteArray)(s:Nat):List zh×Bool:=match yo t n with
 |none=>(t,false)
 |some e=>if s<=e.qh then(t,false) else(t.set (zV t n) {e with qh:=s},true)
theorem Ld(t:List zh)(n:ByteArray)(s:Nat):(x6 t n s).1.length=t.length:=by
 unfold x6;split
 ·rfl
 ·split<;>simp
theorem RH(B:Nat)(w:World)(tb:Nat)(t:List zh)(n:ByteArray)(s:Nat)(h:TA B w tb t)(y:t.length<=1000)(_:s<=3000000):
  Calls prog 151 #[(π tb),.string n,ι s] w fun e m=>e=ε (.bool (x6 t n s).2)/\TA B m tb (x6 t n s).1/\Below B w m:=by
 obtain⟨K,G,b,a⟩:=h.view;obtain⟨N,J⟩:=b.rules;have A:=Q7 h;cases f:yo t n with
 |none=>
  have p:Hid (x6 t n s=(t,false)):=by unfold Hid x6;rw[f]
  have d:=Q7 (Fi B w tb t n h y f);rw[p.out];go_enter func151,ntmps151;go_wp2_with (go_at_call 77;refine d.out.mono ?_;rintro e m ⟨rfl,rfl⟩;clear d)
  go_ret;exact⟨rfl,A,zo _ _⟩
 |some i=>
  have d:=Q7 (CM B w tb t n i h y f);obtain⟨z,j,E⟩:=jV f;obtain⟨g,rfl,L,r,D,_,I⟩:=kL a _ z;have F:=qO a;by_cases l:s<=i.qh
  ·have p:Hid (x6 t n s=(t,false)):=by unfold Hid x6;rw[f];simp[l]
   rw[p.out];go_enter func151,ntmps151;go_wp2_with (go_at_call 77;refine d.out.mono ?_;rintro e m ⟨rfl,rfl⟩;clear d)
   go_ret;exact⟨rfl,A,zo _ _⟩
  ·have p:Hid (x6 t n s=(t.set (zV t n) {i with qh:=s},true)):=by unfold Hid x6;rw[f];simp[l]
   rw[p.out];have c:=uW a (zV t n*3+2) (by rw[iT];omega) (ι (s:Int));rw[B7 t (zV t n) {i with qh:=s} z (by rw[j]) (by rw[j])] at c;have o:tb≠g:=by
    intro v;subst v;obtain⟨_,⟨q,_⟩|⟨M,x,C,q,_,H,_⟩⟩:=a
    ·cases q
    ·simp at q;obtain⟨rfl,_⟩:=q;unfold Q8 at b;rw[H] at b;simp at b
   have k:=b.set_ne o (zV t n*3+2) (ι (s:Int));have u:Hid (TA B (w.setCell ⟨g,zV t n*3+2,none⟩ (ι (s:Int))) tb (t.set (zV t n) {i with qh:=s})):=⟨_,k,by simpa using c⟩;go_enter func151,ntmps151;go_wp2_with (go_at_call 77;refine d.out.mono ?_;rintro e m ⟨rfl,rfl⟩;clear d)
   go_ret;exact⟨rfl,u,(zo _ _).setCell r _⟩
end
section
open Go.Proofs.Tryz
variable {lo:Nat}
def jY(t:List zh)(l:zj):Nat:=match yo t l.pred with
 |none=>0
 |some e=>if l.neg then e.qh+1 else e.qh
def qG(t:List zh)(n:Nat)(l:zj):Nat:=if n<jY t l then jY t l else n
def qQ(t:List zh)(c:zd):Nat:=c.body.foldl (qG t) 0
theorem AC{t:List zh}{M:Nat}(h:∀e∈t,e.qh<=M)(l:zj):jY t l<=M+1:=by
 unfold jY;split
 ·omega
 ·rename_i e c;obtain⟨b,a,_⟩:=jV c;have:=h e (by rw[←a];exact zs b);split<;>omega
theorem BF{t:List zh}{M:Nat}(h:∀e∈t,e.qh<=M):∀(a:List zj) (n:Nat),n<=M+1->a.foldl (qG t) n<=M+1
 |[],n,b=>b
 |l::a,n,b=>by
  refine BF h a _ ?_;unfold qG;have:=AC h l;split<;>omega
theorem Al(B M:Nat)(w:World)(tb:Nat)(t:List zh)(c:zd)(J L:Value)(h:TA B w tb t)(C:t.length<=1000)(P:∀e∈t,e.qh<=M)(U:M<=2000000)(hs:QF lo w J c.head.args)(I:Rg lo w L c.body)(R:c.body.length<=1000):
  Calls prog 150 #[(π tb),.agg #[.bool c.head.neg,.string c.head.pred,J,L]] w fun e V=>e=ε (ι (qQ t c))/\μ w V:=by
 obtain⟨ao,W,rfl⟩:=hs.qx;obtain⟨T,N,rfl⟩:=I.qx;have X:=Q7 P;clear P;go_enter func150,ntmps150;go_wp2;go_loopw [5,13] (fun n i wr=>∃k m:Nat,k<=c.body.length/\i=ι k/\n=ι m/\m<=M+1/\μ w wr/\Hid (m=(c.body.take k).foldl (qG t) 0)) (fun _ i _=>c.body.length-(intOf i).toNat)
 case atStart=>exact⟨0,0,zv _,rfl,rfl,zv _,(by go_grown),rfl⟩
 case round=>
  obtain⟨k,m,hk,rfl,rfl,G,d,H⟩:=hrel;have Q:=d.size;by_cases x:k<c.body.length
  ·obtain⟨g,aa,K,rfl,E,z,v,y,F⟩:=I.cell k x;have u:=zl d E z;have Y:=zl d E v;have Z:=zl d E y;have S:g<wr.heap.size:=by omega
   have s:Hid ((c.body.take (k+1)).foldl (qG t) 0=qG t m c.body[k]):=by rw[Hid,H.out,yL x,j8];rfl
   have o:=h.below d;clear z v y F H;generalize c.body[k]=a at *;have p:=AC X.out a;cases l:yo t a.pred with
   |none=>
    have j:Hid (jY t a=0):=by unfold Hid jY;rw[l]
    have D:Hid ((c.body.take (k+1)).foldl (qG t) 0=m):=by rw[Hid,s.out,qG,j.out];simp
    have A:=Q7 l;clear s j l p;go_wp2_with (go_at_call 159;refine(FJ B _ tb t a.pred (by exact o.below (by go_grown)) C A).mono ?_;rintro e O ⟨rfl,rfl⟩)
    go_roundw
    ·exact⟨k+1,m,by omega,by go_num,rfl,G,(by go_grown),D.out.symm⟩
    ·simp[intOf];omega
   |some f=>
    have A:=Q7 l;cases r:a.neg with
    |true=>
     have q:jY t a=f.qh+1:=by unfold jY;rw[l,r];rfl
     have j:Hid (qG t m a=if m<f.qh+1 then f.qh+1 else m):=by unfold Hid qG;rw[q]
     rw[r] at u;rw[q] at p;clear q l r;by_cases b:m<f.qh+1
     all_goals
      go_wp2_with (go_at_call 159;refine(CP B _ tb t a.pred f (by exact o.below (by go_grown)) C A).mono ?_;rintro e O ⟨rfl,rfl⟩)
      go_roundw
      ·first|exact⟨k+1,f.qh+1,by omega,by go_num,by go_num,by omega,(by go_grown),by rw[Hid,s.out,j.out,zc b]⟩|exact⟨k+1,m,by omega,by go_num,rfl,G,(by go_grown),by rw[Hid,s.out,j.out,za b]⟩
      ·simp[intOf];omega
    |false=>
     have q:jY t a=f.qh:=by unfold jY;rw[l,r];rfl
     have j:Hid (qG t m a=if m<f.qh then f.qh else m):=by unfold Hid qG;rw[q]
     rw[r] at u;rw[q] at p;clear q l r;by_cases b:m<f.qh
     all_goals
      go_wp2_with (go_at_call 159;refine(CP B _ tb t a.pred f (by exact o.below (by go_grown)) C A).mono ?_;rintro e O ⟨rfl,rfl⟩)
      go_roundw
      ·first|exact⟨k+1,f.qh,by omega,by go_num,by go_num,by omega,(by go_grown),by rw[Hid,s.out,j.out,zc b]⟩|exact⟨k+1,m,by omega,by go_num,rfl,G,(by go_grown),by rw[Hid,s.out,j.out,za b]⟩
      ·simp[intOf];omega
  ·have D:Hid (m=qQ t c):=by rw[Hid,H.out,xg (by omega)];rfl
   clear H;go_wp2;go_ret;exact⟨by rw[←D.out];rfl,d⟩
def vU(x:List zh×Bool)(c:zd):List zh×Bool:=((x6 x.1 c.head.pred (qQ x.1 c)).1,x.2||(x6 x.1 c.head.pred (qQ x.1 c)).2)
def vS(t:List zh)(cs:List zd):List zh×Bool:=cs.foldl vU (t,false)
theorem Hk{t:List zh}{n:ByteArray}{s M:Nat}(h:∀e∈t,e.qh<=M)(hs:s<=M):∀e∈(x6 t n s).1,e.qh<=M:=by
 unfold x6;split
 ·exact h
 ·split
  ·exact h
  ·intro e a;rcases pG a with a|a
   ·exact h e a
   ·subst a;exact hs
theorem FG{α β:Type}(f:β->α->β)(b:β)(l:List α)(k:Nat)(a:k<l.length):(l.take (k+1)).foldl f b=f ((l.take k).foldl f b) l[k]:=by rw[yL a,j8];rfl
theorem GY(B M:Nat)(w:World)(tb:Nat)(t:List zh)(v:Value)(cs:List zd)(I:World)(X:I.heap.size=B)(F:Below B I w)(G:Rl lo 171 I v cs)(H:∀c∈cs,vP c)(_:cs.length<=1000)
  (h:TA B w tb t) (hl:t.length<=1000) (hM:∀e∈t,e.qh<=M) (ah:M+cs.length<=1900000):
  Calls prog 104 #[.pointer (some ⟨tb,0,none⟩),v] w fun e w'=>e=.returned (.bool (vS t cs).2)/\TA B w' tb (vS t cs).1/\Below B w w'/\(vS t cs).1.length=t.length/\(∀e∈(vS t cs).1,e.qh<=M+cs.length):=by
 obtain⟨ao,aj,rfl⟩:=G.qx;have U:Hid (∀c∈cs,vP c):=H;have ab:=F.size;clear H;go_enter func104,ntmps104;go_wp2;go_loopw [5,11] (fun r i wr=>∃k:Nat,k<=cs.length/\i=.int .i64 k/\r=.bool ((cs.take k).foldl vU (t,false)).2/\Below B w wr/\TA B wr tb ((cs.take k).foldl vU (t,false)).1/\((cs.take k).foldl vU (t,false)).1.length=t.length/\Hid (∀e∈((cs.take k).foldl vU (t,false)).1,e.qh<=M+k)) (fun _ i _=>cs.length-(intOf i).toNat)
 case atStart=>exact⟨0,zv _,rfl,rfl,zo _ _,h,rfl,hM⟩
 case round=>
  obtain⟨k,hk,rfl,rfl,b,f,A,u⟩:=hrel;have j:Below I.heap.size I wr:=by rw[X];exact F.trans b
  have ac:=b.size;by_cases C:k<cs.length
  ·have N:=FG vU (t,false) cs k C;obtain⟨g,ap,aa,af,Z,rfl,hg,P,K,O,E,L,o⟩:=G.cell k C;have ag:=(j.cell (p:=⟨g,k*4,none⟩) (by omega)).trans P;have al:=(j.cell (p:=⟨g,k*4+1,none⟩) (by omega)).trans K;have am:=(j.cell (p:=⟨g,k*4+2,none⟩) (by omega)).trans O;have ai:=(j.cell (p:=⟨g,k*4+3,none⟩) (by omega)).trans E;have ae:g<wr.heap.size:=by omega
   have q:=L.below j;have s:=o.below j;obtain⟨an,J⟩:=U.out _ (zs C);clear P K O E L o;generalize cs[k]=a at *;generalize (cs.take k).foldl vU (t,false)=x at *;obtain⟨tk,rk⟩:=x;simp only at f A u ⊢;have Q:Hid ((cs.take (k+1)).foldl vU (t,false)=vU (tk,rk) a):=N;clear N;have ad:qQ tk a<=M+k+1:=BF u.out a.body 0 (by omega);have ak:=Ld tk a.head.pred (qQ tk a);have Y:Hid (∀e∈(x6 tk a.head.pred (qQ tk a)).1,e.qh<=M+(k+1)):=Hk (fun e he=>by have:=u.out e he;omega) (by omega);cases hR:(x6 tk a.head.pred (qQ tk a)).2 with
   |true=>
    have n:Hid (((cs.take (k+1)).foldl vU (t,false))=((x6 tk a.head.pred (qQ tk a)).1,true)):=by rw[Hid,Q.out,vU];simp[hR]
    clear Q;go_wp2_with (first|(go_at_call 150;refine(Al B (M+k) _ tb tk a _ _ (by exact f.below (by go_grown)) (by omega) u.out (by omega) (by exact q.below (by go_grown)) (by exact s.below (by go_grown)) J).mono ?_;rintro e w1 ⟨rfl,l⟩;have d:=QB ((zo wr.heap.size wr).alloc (zg _) _) l;have D:=f.below d;have S:=d.size;have m:=(Q8.new wr _ _).below l;obtain⟨R,T⟩:=m.rules)|(go_at_call 151;refine(RH B _ tb tk a.head.pred (qQ tk a) D (by omega) (by omega)).mono ?_;rintro e w2 ⟨rfl,z,y⟩))
    go_roundw
    case rel=>exact⟨k+1,by omega,by go_num,by rw[n.out],(b.trans (d.mono (by omega))).trans y,by rw[n.out];exact z,by rw[n.out];simp only;omega,by rw[n.out];exact Y⟩
    case measure=>simp[intOf];omega
   |false=>
    have n:Hid (((cs.take (k+1)).foldl vU (t,false))=((x6 tk a.head.pred (qQ tk a)).1,rk)):=by rw[Hid,Q.out,vU];simp[hR]
    clear Q;go_wp2_with (first|(go_at_call 150;refine(Al B (M+k) _ tb tk a _ _ (by exact f.below (by go_grown)) (by omega) u.out (by omega) (by exact q.below (by go_grown)) (by exact s.below (by go_grown)) J).mono ?_;rintro e w1 ⟨rfl,l⟩;have d:=QB ((zo wr.heap.size wr).alloc (zg _) _) l;have D:=f.below d;have S:=d.size;have m:=(Q8.new wr _ _).below l;obtain⟨R,T⟩:=m.rules)|(go_at_call 151;refine(RH B _ tb tk a.head.pred (qQ tk a) D (by omega) (by omega)).mono ?_;rintro e w2 ⟨rfl,z,y⟩))
    go_roundw
    case rel=>exact⟨k+1,by omega,by go_num,by rw[n.out],(b.trans (d.mono (by omega))).trans y,by rw[n.out];exact z,by rw[n.out];simp only;omega,by rw[n.out];exact Y⟩
    case measure=>simp[intOf];omega
  ·have hE:cs.take k=cs:=xg (by omega);rw[hE] at f A u ⊢;have V:k=cs.length:=by omega
   have W:Hid (∀e∈(vS t cs).1,e.qh<=M+cs.length):=by rw[←V];exact u
   clear hE u;go_wp2;go_ret;exact⟨rfl,f,b,A,W⟩
def xJ:Nat->List zh->List zd->List zh×Bool
 |0,t,_=>(t,false)
 |m+1,t,a=>if (vS t a).2 then xJ m (vS t a).1 a else((vS t a).1,true)
theorem Eu(B:Nat)(w:World)(tb:Nat)(t:List zh)(v:Value)(cs:List zd)(q:World)(z:q.heap.size=B)(D:Below B q w)(E:Rl lo 171 q v cs)(n:∀c∈cs,vP c)(r:cs.length<=1000)
  (h:TA B w tb t) (T:t.length<=1000) (O:∀e∈t,e.qh<=0):
  Calls prog 64 #[(π tb),v] w fun e s=>e=ε (.bool (xJ (t.length+1) t cs).2)/\TA B s tb (xJ (t.length+1) t cs).1/\Below B w s:=by
 have F:Hid (∀c∈cs,vP c):=n;have M:Hid (q.heap.size=B):=z;clear n z;go_enter func64,ntmps64;go_wp2;go_loopw [5] (fun i wr=>∃(p:Nat) (tk:List zh),p<=t.length+1/\i=ι p/\Below B w wr/\TA B wr tb tk/\tk.length=t.length/\Hid (∀e∈tk,e.qh<=p*cs.length)/\Hid (xJ (t.length+1) t cs=xJ (t.length+1-p) tk cs)) (fun i _=>t.length+1-(intOf i).toNat)
 case atStart=>exact⟨0,t,zv _,rfl,zo _ _,h,rfl,(by simpa [Hid] using O),rfl⟩
 case round=>
  obtain⟨p,tk,U,rfl,b,f,G,L,H⟩:=hrel;obtain⟨V,Q,x,y⟩:=f.view;obtain⟨R,S⟩:=x.rules;rw[G] at R x y;by_cases P:p<=t.length
  ·have o:p*cs.length<=1000*1000:=Nat.mul_le_mul (by omega) r;have A:=GY B (p*cs.length) wr tb tk v cs q M.out (D.trans b) E F.out r f (by omega) L.out (by omega);have a:Hid (Calls prog 104 #[(π tb),v] wr fun e s=>e=ε (.bool (vS tk cs).2)/\TA B s tb (vS tk cs).1/\Below B wr s/\(vS tk cs).1.length=tk.length/\(∀e∈(vS tk cs).1,e.qh<=p*cs.length+cs.length)):=A;have u:t.length+1-p=(t.length-p)+1:=by omega
   have C:Hid (xJ (t.length+1) t cs=if (vS tk cs).2 then xJ (t.length-p) (vS tk cs).1 cs else((vS tk cs).1,true)):=by rw[Hid,H.out,u];rfl
   clear A u H;have m:p*cs.length+cs.length=(p+1)*cs.length:=by rw[fS];omega
   have J:Hid (p*cs.length+cs.length=(p+1)*cs.length):=m;clear m o L;cases l:(vS tk cs).2 with
   |true=>
    have d:Hid (xJ (t.length+1) t cs=xJ (t.length+1-(p+1)) (vS tk cs).1 cs):=by rw[Hid,C.out,l];simp
    clear C;rw[l] at a;clear l;generalize (vS tk cs).1=K at *;go_wp2_with (go_at_call 104;refine a.out.mono ?_;rintro e N ⟨rfl,k,j,I,g⟩;clear a)
    go_roundw
    ·exact⟨p+1,K,by omega,by go_num,b.trans j,k,by omega,by rw[J.out] at g;exact g,d⟩
    ·simp[intOf];omega
   |false=>
    have d:Hid (xJ (t.length+1) t cs=((vS tk cs).1,true)):=by rw[Hid,C.out,l];simp
    clear C;rw[l] at a;clear l;generalize (vS tk cs).1=K at *;go_wp2_with (go_at_call 104;refine a.out.mono ?_;rintro e N ⟨rfl,k,j,I,g⟩;clear a)
    go_ret;exact⟨by rw[d.out];rfl,by rw[d.out];exact k,b.trans j⟩
  ·have d:Hid (xJ (t.length+1) t cs=(tk,false)):=by rw[Hid,H.out,show t.length+1-p=0 by omega];rfl
   clear H;go_wp2;go_ret;exact⟨by rw[d.out];rfl,by rw[d.out];exact f,b⟩
end
section
open Go.Proofs.Tryz
variable {w w':World}{base n b g cap m tb:Nat}{v:Value}{xs:List Value}{c:Array Value}
theorem Q8.newAt(w:World)(b:Nat)(c:Array Value)(T:TypeId)(h:b=w.heap.size):Q8 (w.alloc (.cells c T)) b c T:=by subst h;exact Q8.new w c T
theorem Q8.drew{w:World}{b:Nat}{c:Array Value}{T:TypeId}(h:Q8 w b c T):Q8 w.drew b c T:=h
theorem K6{e:TypeId}{a:Nat}(h:w.ownsRow base e a v n xs)(p:w.heap.size<=b):some b≠v.ownBlock:=by
 intro j;obtain⟨_,⟨f,_⟩|⟨o,l,k,d,_,i,_⟩⟩:=h
 ·subst f;cases j
 ·subst d;simp only[Value.ownBlock,zt] at j;subst j;have:=(kz.1 i).1;omega
theorem ly{e T:TypeId}{d:Nat}(h:w.ownsRow base e d v n xs)(l:Q8 w b c T)(p:e≠T):some b≠v.ownBlock:=by
 intro j;obtain⟨_,⟨i,_⟩|⟨q,o,k,f,_,a,_⟩⟩:=h
 ·subst i;cases j
 ·subst f;simp only[Value.ownBlock,zt] at j;subst j;unfold Q8 at l;rw[l] at a;simp at a;exact p a.2.symm
theorem Q8.keep{d f:World}{T:TypeId}(h:Q8 d b c T)(a:some b≠v.ownBlock)(i:∀k,k<d.heap.size->some k≠v.ownBlock->f.heap[k]?=d.heap[k]?):Q8 f b c T:=by
 have e:=h.lt;unfold Q8 at *;rw[i b e a];exact h
theorem Ky{e T:TypeId}{a:Nat}(h:w.ownsRow base e a (.slice (some ⟨g,0,none⟩) n cap) m xs)(k:Q8 w b c T)(q:c.size<m*a):b≠g:=by
 intro o;subst o;obtain⟨_,⟨i,_⟩|⟨s,l,j,f,_,d,r,t,p,_⟩⟩:=h
 ·cases i
 ·simp at f;obtain⟨rfl,rfl,rfl⟩:=f;unfold Q8 at k;rw[k] at d;simp at d;rw[←d.1] at p;have:=gZ a r;omega
section
variable {P:Program} {ops:Array Oper} {o:Oper} {a:Act} {K:Act->World->Prop} {Q:Exit->Act->World->Prop}
theorem oo{E:Prop}(D C:World)(l:List Value)(Z:TypeId)(O:o.guard=none)(s x:Operand)(t:TypeId)
  (ho:o.op=.call {callee:=.builtin .append,args:=#[s,x],argTypes:=#[t,t]})
  (base:Nat) (e:TypeId) (i:TypeInfo) (z:Value) (d f:Nat) (ht:P.underlying t=some (.slice e)) (hi:P.info? e=some i) (Y:i.zero=some z)
  (A:i.size=d) (N:i.bytes=f) (I:z.cells.size=d) (H:0<d)
  (v:Value) (n:Nat) (xs:List Value) (U:a.eval s=v) (y:D.ownsRow base e d v n xs) (q:μ D C)
  (b c:Nat) (X:a.eval x=.slice (some ⟨b,0,none⟩) 1 c) (V:Q8 C b l.toArray Z) (hl:l.length=d) (h1:∀u∈l,u.oneCell'=true)
  (hn:n<=1048576) (r:f<=1000) (L:base<=D.heap.size)
  (h:∀G w',w'.ownsRow base e d G (n+1) (xs++l)->Below base D w'->(∀k,k<C.heap.size->some k≠v.ownBlock->w'.heap[k]?=C.heap[k]?)->C.heap.size<=w'.heap.size->K (a.put o.dst G) w'):
  if Region.wanted o (yielded ops a.tmps)=true then Oper.wp P o a C K Q else E:=by
 have hw:Region.wanted o (yielded ops a.tmps)=true:=by simp[Region.wanted,O]
 rw[zc hw];have B:=zB y q;have R:∀k,v.ownBlock=some k->base<=k/\k<D.heap.size:=by
  intro k F;obtain⟨_,M⟩:=y;rcases M with⟨J,_⟩|⟨g,cap,T,J,O,hh,_⟩
  ·subst J;cases F
  ·subst J;simp only[Value.ownBlock,zt] at F;subst F;exact⟨O,(kz.1 hh).1⟩
 have S:=q.size;refine wp_append_own _ s x t ho base e i z d f ht hi Y A N I H v n xs U B ⟨b,0,none⟩ 1 c l X (by omega) ?_ h1 ?_ ?_ ?_ ?_
 ·intro j u W;rw[Addr.add_lit,vB,V.rules.1];simpa using W
 ·unfold maxLen;omega
 ·have:(n+1)*f<=1048577*1000:=Nat.mul_le_mul (by omega) r;omega
 ·omega
 ·intro G w' M p _;refine h G w' M ⟨p.os.trans q.os,p.tape.trans q.tape,p.output.trans q.output,by have:=p.size;omega,fun k F=>?_⟩ p.block p.size;rw[p.block k (by omega) (fun e=>by have:=R k e.symm;omega)];exact q.block k (by omega)
end
def vg(t:List zh)(x:zh)(k:Nat):List zh:=t.take k++x::t.drop k
theorem fm(t:List zh)(x:zh)(k:Nat):(vg t x k).length=t.length+1:=by simp[vg];omega
theorem Pv(t:List zh)(x:zh):vg t x t.length=t++[x]:=by simp[vg]
theorem Hf(t:List zh)(x:zh)(j:Nat)(d:j<t.length):∃h:j<(vg t x (j+1)).length,(vg t x (j+1))[j]=t[j]:=by
 refine⟨by rw[fm];omega,?_⟩;unfold vg;rw[vu (by simp;omega)];simp
theorem Lp(t:List zh)(x:zh)(j:Nat)(d:j<=t.length):∃h:j<(vg t x j).length,(vg t x j)[j]=x:=by
 refine⟨by rw[fm];omega,?_⟩;unfold vg;rw[mX (by simp;omega)];simp[d]
theorem MG(t:List zh)(x:zh)(j:Nat)(d:j<t.length):((vg t x (j+1)).set (j+1) t[j]).set j x=vg t x j:=by
 unfold vg;have f:=yL d;have h:=xn d;have e:(t.take j).length=j:=by simp;omega
 rw[f,h,ky,fM _ _ (by omega),e,fM _ _ (by omega),e];simp
theorem Dh:∀(t:List zh) (k:Nat) (e:zh),k<t.length->(((xZ t).set (k*3) (.string e.name)).set (k*3+1) (ι (e.jh:Int))).set (k*3+2) (ι (e.qh:Int))=xZ (t.set k e)
 |[],k,_,d=>by simp at d
 |a::r,0,e,_=>by simp[xZ]
 |a::r,k+1,e,d=>by
  have:=Dh r k e (by simpa using d);simp only[xZ,us,ml] at this ⊢;rw[show(k+1)*3=k*3+1+1+1 from by omega,show k*3+1+1+1+2=k*3+2+1+1+1 from by omega];simpa using this
theorem eU{B:Nat}{t:List zh}(h:w.ownsRow B 221 3 (.slice (some ⟨g,0,none⟩) n cap) m (xZ t))(k:Nat)(d:k<t.length)(e:zh):
  (((w.setCell ⟨g,k*3,none⟩ (.string e.name)).setCell ⟨g,k*3+1,none⟩ (ι (e.jh:Int))).setCell ⟨g,k*3+2,none⟩ (ι (e.qh:Int))).ownsRow B 221 3 (.slice (some ⟨g,0,none⟩) n cap) m (xZ (t.set k e)):=by
 have f:=iT t;rw[←Dh t k e d];exact uW (uW (uW h _ (by omega) _) _ (by simp;omega) _) _ (by simp;omega) _
structure qe (tb:Nat) (w w':World):Prop where
 size:w.heap.size<=w'.heap.size
 box:∀b c T,b≠tb->T≠221->Q8 w b c T->Q8 w' b c T
theorem qe.trans{a b c:World}(h:qe tb a b)(k:qe tb b c):qe tb a c:=⟨yc h.size k.size,fun x y z d e f=>k.box x y z d e (h.box x y z d e f)⟩
theorem qe.of(h:μ w w'):qe tb w w':=⟨h.size,fun _ _ _ _ _ k=>k.below h⟩
theorem qe.drew{tb:Nat}{w w':World}(h:qe tb w w'):qe tb w w'.drew:=⟨h.size,fun b c T e f d=>(h.box b c T e f d).drew⟩
theorem qe.setRow(h:qe tb w w'){B:Nat}(f:w'.ownsRow B 221 3 (.slice (some ⟨g,0,none⟩) n cap) m xs)(o:Nat)(u:Value):qe tb w (w'.setCell ⟨g,o,none⟩ u):=by
 refine⟨by simp[World.setCell];exact h.size,fun b c T j e i=>?_⟩;have d:=h.box b c T j e i;have:=ly f d (Ne.symm e);simp only[Value.ownBlock,ne_eq,zt] at this;exact d.set_ne this _ _
theorem Ds(h:qe tb w w'){B:Nat}{t:List zh}(d:w'.ownsRow B 221 3 (.slice (some ⟨g,0,none⟩) n cap) m (xZ t))(k:Nat)(e:k<t.length)(u1 u2 u3:Value):
  qe tb w (((w'.setCell ⟨g,k*3,none⟩ u1).setCell ⟨g,k*3+1,none⟩ u2).setCell ⟨g,k*3+2,none⟩ u3):=by
 have f:=iT t;exact((h.setRow d _ _).setRow (uW d _ (by omega) _) _ _).setRow (uW (uW d _ (by omega) _) _ (by simp;omega) _) _ _
theorem Q4:(prog.info? 221).map (fun i=>(i.zero,i.size,i.bytes))=some (some (.agg #[.string ByteArray.empty,ι 0,ι 0]),3,32):=by kernel_rfl
theorem CK(B:Nat)(w:World)(tb:Nat)(t:List zh)(i:Nat)(x:zh)(h:TA B w tb t)(hl:t.length<=1000)(hi:i<=t.length)(hB:B<=w.heap.size)(Z:B<=tb):
  Calls prog 147 #[(π tb),ι i,.agg #[.string x.name,ι x.jh,ι x.qh]] w fun e w'=>e=ε (.tuple #[])/\TA B w' tb (t.take i++x::t.drop i)/\Below B w w'/\qe tb w w':=by
 obtain⟨i0,R,X,V,N⟩:=info_parts Q4;obtain⟨ao,cap,C,p⟩:=h.view;obtain⟨hc,hf,ar⟩:=C.boxed;have u:μ w (((w.alloc (.cells #[.string x.name,ι (x.jh:Int),ι (x.qh:Int)] 221)).alloc (.cells #[.string x.name,ι (x.jh:Int),ι (x.qh:Int)] 221)).drew):=(by go_grown);go_enter func147,ntmps147;go_wp2;go_region_law (first|(refine oo w _ [.string x.name,ι (x.jh:Int),ι (x.qh:Int)] 221 rfl (.tmp 11) (.tmp 13) 125 rfl B 221 i0 _ 3 32 underlying125 R X V N rfl (by decide) _ _ _ (by simp[Act.eval]) p (by exact(by go_grown)) (w.heap.size+1) 1 (by simp[Act.eval]) (by exact Q8.drew (Q8.newAt _ _ _ _ (by simp))) rfl (by simp[Value.oneCell']) (by omega) (by omega) hB ?_;intro v' w2 F H z ag;obtain⟨A,r,rfl⟩:=zp F;have q:=(C.below u).keep (ly p C (by decide)) z;obtain⟨au,al⟩:=q.rules;have E:=Q8.keep (Q8.drew ((Q8.new w _ _).below zT)) (K6 p (zg _)) z))
 all_goals
  go_wp2;go_loopw [6] (fun k wr=>∃j:Nat,i<=j/\j<=t.length/\k=ι j/\Q8 wr tb #[.slice A (t.length+1) r] 127/\wr.ownsRow B 221 3 (.slice A (t.length+1) r) (t.length+1) (xZ (vg t x j))/\Q8 wr w.heap.size #[.string x.name,ι (x.jh:Int),ι (x.qh:Int)] 221/\Below B w wr/\qe tb w wr) (fun k _=>(intOf k).toNat)
  case atStart=>
   refine⟨t.length,hi,zg _,rfl,q.set 0 _,?_,E.set_ne (by omega) _ _,?_,?_⟩
   ·rw[Pv];have:=xO F ((QJ.refl tb w2).setCell 0 (.slice A (t.length+1) r)) q (by decide);simpa [xZ] using this
   ·exact H.setCell Z _
   ·exact⟨by simp[World.setCell];exact H.size,fun b c T h1 h2 h3=>((h3.below u).keep (ly p h3 (Ne.symm h2)) z).set_ne h1 _ _⟩
  case round=>
   obtain⟨j,am,an,rfl,s,l,D,I,y⟩:=hrel;obtain⟨ap,aq⟩:=s.rules;obtain⟨ak,ah⟩:=D.rules;by_cases af:i<j
   ·obtain⟨j,rfl⟩:∃j',j=j'+1:=⟨j-1,by omega⟩;obtain⟨W,L⟩:=Hf t x j (by omega);obtain⟨g,rfl,hg,ai,O,ab,ac⟩:=kL (t:=vg t x (j+1)) (by rw[fm];exact l) j W;rw[L] at O ab ac;have aj:=qO l;have d:=ly l s (by decide);have f:=Ky l D (by simp;omega);simp only[Value.ownBlock,ne_eq,zt] at d;obtain⟨aa,J⟩:=Lp t x (j+1) (by omega);obtain⟨g',M,_,_,U,Y,S⟩:=kL (t:=vg t x (j+1)) (by rw[fm];exact l) (j+1) aa;simp at M;subst M;rw[J] at U Y S;clear L J;go_wp2;go_region
    go_wp2;go_region
    go_wp2;have G:=eU (eU l (j+1) (by rw[fm];omega) t[j]) j (by rw[fh,fm];omega) x;have ad:=Ds (Ds y l (j+1) (by rw[fm];omega) (.string t[j].name) (ι (t[j].jh:Int)) (ι (t[j].qh:Int))) (eU l (j+1) (by rw[fm];omega) t[j]) j (by rw[fh,fm];omega) (.string x.name) (ι (x.jh:Int)) (ι (x.qh:Int));rw[MG t x j (by omega)] at G;go_roundw
    case rel=>exact⟨j,by omega,by omega,rfl,(((((((s.set_ne d _ _).set_ne d _ _).set_ne d _ _).set_ne d _ _).set_ne d _ _).set_ne d _ _).drew).drew,G.drew.drew,(((((((D.set_ne f _ _).set_ne f _ _).set_ne f _ _).set_ne f _ _).set_ne f _ _).set_ne f _ _).drew).drew,(by go_grown),ad.drew.drew⟩
    case measure=>simp[intOf]
   ·have ae:j=i:=by omega
    subst ae;go_wp2;go_end0
    exact⟨rfl,⟨_,s,by rw[show(t.take j++x::t.drop j).length=t.length+1 from fm t x j];exact l⟩,I,y⟩
end
section
open Go.Proofs.Tryz
theorem Oj(a b:Nat):((a:Int) == (b:Int))=decide (a=b):=by
 by_cases h:a=b
 ·subst h;simp
 ·rw[decide_eq_false h,beq_eq_false_iff_ne];omega
theorem Gu{a b:Bool}(h:a=b):Ending.returned (.bool a)=ε (.bool b):=by rw[h]
def vE(t:List zh)(l:zj):Option (List zh):=match yo t l.pred with
 |some e=>if e.jh=l.args.length then some t else none
 |none=>some (vg t ⟨l.pred,l.args.length,0⟩ (zV t l.pred))
theorem CT(B:Nat)(w:World)(tb:Nat)(t:List zh)(l:zj)(b:Option Addr)(a:Nat)(h:TA B w tb t)(q:t.length<=1000)(n:zh)(r:yo t l.pred=some n):
  Calls prog 102 #[(π tb),.agg #[.bool l.neg,.string l.pred,.slice b l.args.length a]] w fun e o=>e=ε (.bool (decide (n.jh=l.args.length)))/\μ w o:=by
 obtain⟨y,v,d,f⟩:=h.view;have u:=d.lt;have k:=(zo w.heap.size w).alloc (zg _) (.cells #[.bool l.neg,.string l.pred,.slice b l.args.length a] 90);have c:=Q7 (we B _ tb t l.pred (h.below k) q);obtain⟨A,x⟩:=d.rules;obtain⟨s,i,p⟩:=jV r;obtain⟨g,rfl,z,_,j,m,_⟩:=kL f _ s;rw[i] at j m;go_enter func102,ntmps102;go_wp2_with (go_at_call 126;refine c.out.mono ?_;rintro e o ⟨rfl,rfl⟩;clear c)
 go_quiet (fail)
 go_wp2;go_quiet (fail)
 go_wp2;go_ret;exact⟨Gu (Oj _ _),(by repeat'(first|with_reducible(first|apply zR|assumption|apply zN|apply zA|apply zD|apply zS)|go_size))⟩
theorem Ko(B:Nat)(w:World)(tb:Nat)(t:List zh)(l:zj)(j:Option Addr)(d:Nat)(h:TA B w tb t)(v:t.length<=1000)(z:yo t l.pred=none)(s:B<=w.heap.size)(o:B<=tb):
  Calls prog 102 #[(π tb),.agg #[.bool l.neg,.string l.pred,.slice j l.args.length d]] w fun e n=>e=ε (.bool true)/\TA B n tb (vg t ⟨l.pred,l.args.length,0⟩ (zV t l.pred))/\Below B w n/\qe tb w n:=by
 obtain⟨I,F,p,q⟩:=h.view;have E:=p.lt;have r:=iX t l.pred;have b:=(zo w.heap.size w).alloc (zg _) (.cells #[.bool l.neg,.string l.pred,.slice j l.args.length d] 90);have c:=Q7 (we B _ tb t l.pred (h.below b) v);obtain⟨L,H⟩:=p.rules;have x:=h;have m:=Q7 x;have y:Hid (vg t ⟨l.pred,l.args.length,0⟩ (zV t l.pred)=t.take (zV t l.pred)++⟨l.pred,l.args.length,0⟩::t.drop (zV t l.pred)):=rfl;rcases tZ z with A|⟨A,u⟩
 ·clear z;generalize zV t l.pred=k at *;go_enter func102,ntmps102;go_wp2_with (go_at_call 126;refine c.out.mono ?_;rintro e n ⟨rfl,rfl⟩;clear c)
  go_quiet (fail)
  go_wp2_with (go_at_call 147;refine(CK B _ tb t k ⟨l.pred,l.args.length,0⟩ (by exact m.out.below (by repeat'(first|with_reducible(first|apply zR|assumption|apply zN|apply zA|apply zD|apply zS)|go_size))) v r (by exact yc s (by simp)) o).mono ?_;rintro e D ⟨rfl,i,f,a⟩)
  go_ret;exact⟨rfl,i,((zJ (b.mono s) _)).trans f,(qe.of (zJ b _)).trans a⟩
 ·obtain⟨g,rfl,J,_,C,G,_⟩:=kL q _ A;have K:=j5 u;generalize zV t l.pred=k at *;go_enter func102,ntmps102;go_wp2_with (go_at_call 126;refine c.out.mono ?_;rintro e n ⟨rfl,rfl⟩;clear c)
  go_quiet (fail)
  go_wp2_with (go_at_call 147;refine(CK B _ tb t k ⟨l.pred,l.args.length,0⟩ (by exact m.out.below (by repeat'(first|with_reducible(first|apply zR|assumption|apply zN|apply zA|apply zD|apply zS)|go_size))) v r (by exact yc s (by simp)) o).mono ?_;rintro e D ⟨rfl,i,f,a⟩)
  go_ret;exact⟨rfl,i,((zJ (b.mono s) _)).trans f,(qe.of (zJ b _)).trans a⟩
end
section
open Go.Proofs.Tryz
variable {lo:Nat}{t:List zh}{o:Option (List zh)}
theorem et{a:List zh}{l:zj}(h:vE t l=some a):a.length<=t.length+1:=by
 unfold vE at h;split at h
 ·split at h<;>simp at h;subst h;omega
 ·simp at h;subst h;rw[fm];omega
theorem Lu{c:List zh}{l:zj}(h:vE t l=some c)(b:∀e∈t,e.qh<=0):∀e∈c,e.qh<=0:=by
 unfold vE at h;split at h
 ·split at h<;>simp at h;subst h;exact b
 ·simp at h;subst h;intro e a;unfold vg at a;rcases zI.1 a with a|a
  ·exact b e (fV a)
  ·rcases zx.1 a with a|a
   ·subst a;exact zg _
   ·exact b e (dQ a)
def um(o:Option (List zh))(l:zj):Option (List zh):=o.bind (vE · l)
def zk(c:zd):List zj:=c.head::c.body
def ui(cs:List zd):Option (List zh):=(cs.flatMap zk).foldl um (some [])
theorem pc(b:List zj):b.foldl um none=none:=by
 induction b with
 |nil=>rfl
 |cons a b c=>exact c
theorem wn:∀(c:List zj) (t:List zh),(∀e∈t,e.qh<=0)->∀a,c.foldl um (some t)=some a->∀e∈a,e.qh<=0
 |[],t,b,a,h=>by simp at h;subst h;exact b
 |l::c,t,b,a,h=>by
  simp only[ut] at h;cases d:vE t l with
  |none=>rw[show um (some t) l=none from d,pc] at h;cases h
  |some f=>rw[show um (some t) l=some f from d] at h;exact wn c f (Lu d b) a h
theorem sM:∀(b:List zj) (t:List zh),∀a,b.foldl um (some t)=some a->a.length<=t.length+b.length
 |[],t,a,h=>by simp at h;subst h;simp
 |l::b,t,a,h=>by
  simp only[ut] at h;cases c:vE t l with
  |none=>rw[show um (some t) l=none from c,pc] at h;cases h
  |some d=>rw[show um (some t) l=some d from c] at h;have:=sM b d a h;have:=et c;simp;omega
theorem B5(B:Nat)(w:World)(tb:Nat)(t:List zh)(l:zj)(b:Option Addr)(a:Nat)(h:TA B w tb t)(f:t.length<=1000)(c:vE t l=none):
  Calls prog 102 #[(π tb),.agg #[.bool l.neg,.string l.pred,.slice b l.args.length a]] w fun e i=>e=ε (.bool false)/\μ w i:=by
 unfold vE at c;split at c
 ·rename_i g j;split at c
  ·cases c
  ·rename_i d;have:=CT B w tb t l b a h f g j;rw[decide_eq_false d] at this;exact this
 ·cases c
theorem Eh(B:Nat)(w:World)(tb:Nat)(t n:List zh)(l:zj)(c:Option Addr)(a:Nat)(h:TA B w tb t)(m:t.length<=1000)(b:vE t l=some n)(k:B<=w.heap.size)(i:B<=tb):
  Calls prog 102 #[(π tb),.agg #[.bool l.neg,.string l.pred,.slice c l.args.length a]] w fun e d=>e=ε (.bool true)/\TA B d tb n/\Below B w d/\qe tb w d:=by
 unfold vE at b;split at b
 ·rename_i p j;split at b
  ·rename_i g;simp at b;subst b;have:=CT B w tb t l c a h m p j;rw[decide_eq_true g] at this;refine this.mono ?_;rintro e d ⟨rfl,f⟩;exact⟨rfl,h.below f,f.mono k,qe.of f⟩
  ·cases b
 ·rename_i j;simp at b;subst b;exact Ko B w tb t l c a h m j k i
def oH(o:Option (List zh))(w:World)(e:Ending)(w':World):Prop:=
 μ w w'/\match o with
  |none=>e=ε (.tuple #[.agg #[ν],.bool false])
  |some t=>∃a,e=ε (.tuple #[.agg #[a],.bool true])/\w'.ownsRow w.heap.size 221 3 a t.length (xZ t)
theorem EE{w w':World}(h:Hid (o=none))(a:μ w w'):oH o w (ε (.tuple #[.agg #[ν],.bool false])) w':=by
 have b:o=none:=h;subst b;exact⟨a,rfl⟩
theorem Oa{w w':World}{a:Value}(h:Hid (o=some t))(b:μ w w')(d:w'.ownsRow w.heap.size 221 3 a t.length (xZ t)):oH o w (ε (.tuple #[.agg #[a],.bool true])) w':=by
 have c:o=some t:=h;subst c;exact⟨b,a,rfl,d⟩
theorem AP(w:World)(v:Value)(cs:List zd)(I:Rl lo 171 w v cs)(hN:(cs.flatMap zk).length<=1000):
  Calls prog 62 #[v] w fun e w'=>oH (ui cs) w e w':=by
 obtain⟨ao,aA,rfl⟩:=I.qx;have a8:cs.length<=1000:=by
  have:cs.length<=(cs.flatMap zk).length:=by
   clear hN I;induction cs with
   |nil=>simp
   |cons c cs ih=>simp[zk] at ih ⊢;omega
  omega
 go_enter func62,ntmps62;go_wp2;go_loopw [11] (fun i wr=>∃(k:Nat) (tk:List zh),k<=cs.length/\i=ι k/\μ w wr/\TA w.heap.size wr (w.heap.size+1) tk/\Q8 wr w.heap.size #[ν] 127/\tk.length+((cs.drop k).flatMap zk).length<=1000/\Hid (ui cs=((cs.drop k).flatMap zk).foldl um (some tk))) (fun i _=>cs.length-(intOf i).toNat)
 case atStart=>
  have x:=(zo w.heap.size w).alloc (zg _) (.cells #[ν] 127);exact⟨0,[],zv _,rfl,(by go_grown),⟨_,Q8.newAt _ _ _ _ (by simp),yD _ _ _ _⟩,(Q8.new w _ _).below zT,(by simpa using hN),rfl⟩
 case round=>
  obtain⟨k,tk,hk,rfl,h,u,f,V,H⟩:=hrel;have E:=h.size;have aj:=f.lt;have a9:w.heap.size+1<wr.heap.size:=by obtain⟨_,hb,_⟩:=u;exact hb.lt
  by_cases ac:k<cs.length
  ·have F:=xn ac;obtain⟨g,a7,au,aB,ax,rfl,hg,Z,ab,Y,R,ar,ae⟩:=I.cell k ac;have aC:=zl h hg Z;have aF:=zl h hg ab;have a6:=zl h hg Y;have a4:=zl h hg R;have a0:g<wr.heap.size:=by omega
   clear Z ab Y R ar;generalize cs[k]=c at *;rw[F] at V;have H1:Hid (ui cs=(c.body++(cs.drop (k+1)).flatMap zk).foldl um (um (some tk) c.head)):=by rw[Hid,H.out,F];rfl
   simp only[us,zk,yq,xi] at V;generalize hR:(cs.drop (k+1)).flatMap zk=rest at *;have HR:=Q7 hR;clear hR H F;cases l:vE tk c.head with
   |none=>
    have K:=Q7 l;have HF:Hid (ui cs=none):=by rw[Hid,H1.out,show um (some tk) c.head=none from l,pc]
    clear H1 l;go_wp2_with (go_at_call 102;refine(B5 w.heap.size _ (w.heap.size+1) tk c.head _ _ (by exact u.below (by go_grown)) (by omega) K).mono ?_;rintro e w1 ⟨rfl,x⟩;have T:=QB ((zo wr.heap.size wr).alloc (zg _) _) x;have N:=QB h T;have d:=f.below T;obtain⟨q,O,ai⟩:=d.boxed)
    exact zK (v:=.tuple #[.agg #[ν],.bool false]) (by simp[results,results62,go_sem,q]) rfl (EE HF (by go_grown))
   |some t1=>
    have K:=Q7 l;have a5:=et l;have H2:Hid (ui cs=(c.body++rest).foldl um (some t1)):=by rw[Hid,H1.out,show um (some tk) c.head=some t1 from l]
    clear H1 l;go_wp2_with (go_at_call 102;refine(Eh w.heap.size _ (w.heap.size+1) tk t1 c.head _ _ (by exact u.below (by go_grown)) (by omega) K (by exact yc E (by simp)) (by omega)).mono ?_;rintro e w1 ⟨rfl,ah,x,z⟩;have N:=(h.alloc E _).trans x;have d:=z.box _ _ _ (by omega) (by decide) (f.below zT);have aa:=z.box _ _ _ (by omega) (by decide) (Q8.new wr _ _);obtain⟨af,an,ag⟩:=aa.boxed;have ai:=d.lt)
    go_loopw [23] (fun i wj=>∃(j:Nat) (p:List zh),j<=c.body.length/\i=ι j/\μ w wj/\TA w.heap.size wj (w.heap.size+1) p/\Q8 wj w.heap.size #[ν] 127/\p.length+(c.body.drop j).length+rest.length<=1000/\Hid (ui cs=(c.body.drop j++rest).foldl um (some p))) (fun i _=>c.body.length-(intOf i).toNat)
    case atStart=>exact⟨0,t1,zv _,rfl,N,ah,d,(by simp;omega),H2⟩
    case round=>
     clear af an aa ag;obtain⟨j,p,hj,rfl,m,r,b,M,HJ⟩:=hrel;have D:=m.size;have ak:=b.lt;by_cases S:j<c.body.length
     ·obtain⟨gl,aG,ay,rfl,G,W,y,A,_⟩:=ae.cell j S;have a1:=zl m G W;have aD:=zl m G y;have a2:=zl m G A;have aE:gl<wr.heap.size:=by omega
      have J:=xn S;clear W y A;generalize c.body[j]=a at *;rw[J] at M;have s:Hid (ui cs=(c.body.drop (j+1)++rest).foldl um (um (some p) a)):=by rw[Hid,HJ.out,J];rfl
      simp only[xi] at M;clear J HJ;cases l:vE p a with
      |none=>
       have K:=Q7 l;have HF:Hid (ui cs=none):=by rw[Hid,s.out,show um (some p) a=none from l,pc]
       clear s l;go_wp2_with (go_at_call 102;refine(B5 w.heap.size _ (w.heap.size+1) p a _ _ (by exact r.below (by go_grown)) (by omega) K).mono ?_;rintro e w3 ⟨rfl,L⟩;have ad:=QB ((zo wr.heap.size wr).alloc (zg _) _) L;have C:=QB m ad;have n:=b.below ad;obtain⟨q,O,a3⟩:=n.boxed)
       exact zK (v:=.tuple #[.agg #[ν],.bool false]) (by simp[results,results62,go_sem,q]) rfl (EE HF (by go_grown))
      |some t2=>
       have K:=Q7 l;have az:=et l;have ap:Hid (ui cs=(c.body.drop (j+1)++rest).foldl um (some t2)):=by rw[Hid,s.out,show um (some p) a=some t2 from l]
       have aw:w.heap.size+1<wr.heap.size:=by obtain⟨_,hb,_⟩:=r;exact hb.lt
       clear s l;go_wp2_with (go_at_call 102;refine(Eh w.heap.size _ (w.heap.size+1) p t2 a _ _ (by exact r.below (by go_grown)) (by omega) K (by exact yc D (by simp)) (by omega)).mono ?_;rintro e w3 ⟨rfl,aq,L,P⟩;have C:=(m.alloc D _).trans L;have n:=P.box _ _ _ (by omega) (by decide) (b.below zT))
       go_roundw
       ·exact⟨j+1,t2,by omega,by go_num,C,aq,n,by omega,ap⟩
       ·simp[intOf];omega
     ·have HE:Hid (ui cs=((cs.drop (k+1)).flatMap zk).foldl um (some p)):=by rw[Hid,HJ.out,uj (by omega),HR.out];rfl
      have am:p.length+rest.length<=1000:=by omega
      clear HJ;go_wp2;go_roundw
      ·exact⟨k+1,p,by omega,by go_num,m,r,b,by rw[HR.out];exact am,HE⟩
      ·simp[intOf];omega
  ·have HF:Hid (ui cs=some tk):=by rw[Hid,H.out,uj (by omega)];rfl
   obtain⟨Q,B,U,X⟩:=u.view;obtain⟨hc,hf⟩:=U.rules;obtain⟨q,O⟩:=f.rules;have av:=U.lt;clear H;go_wp2;have al:=xO X ((QJ.refl w.heap.size wr).setCell 0 (.slice Q tk.length B)) f (by decide);exact zK (v:=.tuple #[.agg #[.slice Q tk.length B],.bool true]) (by simp[results,results62,go_sem,q]) rfl (Oa HF (by go_grown) al)
end
section
variable {lo:Nat}
def B3(l:zj):Prop:=l.pred.size<=6/\0<l.pred.size/\l.args.length<=1000/\∀t∈l.args,0<t.size/\t.size<=6
def ir(c:zd):Prop:=(∀l∈zk c,B3 l)/\c.body.length<=1000
end
end Go.Proofs.YteampbddflhngaaGreat
