import Derived.Deep.RegionLaw
import Derived.Test.YteampbddflhngaaGreatX03
namespace Go.Proofs.YteampbddflhngaaGreat
set_option linter.all false
set_option maxRecDepth 100000
set_option maxHeartbeats 1000000
open Go.RowKit
section
open Go.Proofs.Tryz
variable {lo:Nat}{l:List ByteArray}
theorem fC(t:ByteArray)(w:World):
  Calls prog 156 #[.string t] w fun e a=>e=.returned (.bool (zO t))/\a=w:=by
 unfold zO;by_cases h:0<t.size
 ·rw[qk h];go_enter func156,ntmps156;go_wp2
  all_goals go_ret
  all_goals go_light
  all_goals exact⟨by simp_all [vu];try omega,rfl⟩
 ·rw[nz h];go_enter func156,ntmps156;go_wp2
  all_goals go_ret
  all_goals go_light
  all_goals exact⟨by simp_all [vu],rfl⟩
theorem P7.cell{w:World}{d:Option Addr}{n cap:Nat}{vs:List ByteArray}(h:P7 lo w (.slice d n cap) vs)(k:Nat)(i:k<vs.length):∃g,d=some ⟨g,0,none⟩/\g<w.heap.size/\w.cell? ⟨g,k,none⟩=some (.string vs[k]):=by
 have f:=h;obtain⟨g,c,b,_,e,a⟩:=yC f (by omega);simp at b;exact⟨g,b.1,e,a k _ (by simp[i])⟩
def yp:List ByteArray->ByteArray->Option Nat
 |[],_=>none
 |y::r,n=>if y=n then some 0 else(yp r n).map (·+1)
def ff(l:List ByteArray)(n:ByteArray):Int:=match yp l n with
 |none=>-1
 |some k=>k
theorem f6:∀{l:List ByteArray} {n:ByteArray} {k:Nat},yp l n=some k->∃h:k<l.length,l[k]=n
 |[],_,_,h=>by simp[yp] at h
 |y::r,n,k,h=>by
  unfold yp at h;split at h
  ·simp at h;subst h;exact⟨by simp,by simpa⟩
  ·cases a:yp r n with
   |none=>rw[a] at h;simp at h
   |some j=>rw[a] at h;simp at h;subst h;obtain⟨c,b⟩:=f6 a;exact⟨by simpa using c,by simpa using b⟩
theorem wn{n:ByteArray}{k:Nat}(b:k<l.length)(a:l[k]≠n):yp (l.drop k) n=(yp (l.drop (k+1)) n).map (·+1):=by rw[xk b,yp,za a]
theorem it{n:ByteArray}{k:Nat}(b:k<l.length)(a:l[k]=n):yp (l.drop k) n=some 0:=by rw[xk b,yp,zb a]
theorem i8:∀(l:List ByteArray) (n:ByteArray),(yp l n).isSome=yZ n l
 |[],n=>by rw[pM.2 (by simp)];rfl
 |y::r,n=>by
  unfold yp;by_cases e:y=n
  ·rw[zb e,j7.2 (by simp[e])];rfl
  ·rw[za e,Option.isSome_map,i8 r n];cases h:yZ n r with
   |true=>exact(j7.2 (nO _ (j7.1 h))).symm
   |false=>exact(pM.2 (by have:=pM.1 h;simp[this,Ne.symm e])).symm
theorem Hj(w:World)(f:Nat)(h:Value)(vs:List ByteArray)(t:ByteArray)(c:Py w f #[h] 246)(hs:P7 lo w h vs)(s:vs.length<=1000):
  Calls prog 200 #[.pointer (some ⟨f,0,none⟩),.string t] w fun e o=>e=.returned (.tuple #[.int .i64 ((yp vs t).getD 0:Nat),.bool (yp vs t).isSome])/\o=w:=by
 obtain⟨u,q⟩:=c.rules;obtain⟨v,m,rfl⟩:=hs.qx;go_enter func200,ntmps200;go_wp2;go_loop [13] (fun i=>∃k:Nat,k<=vs.length/\i=.int .i64 k/\Hid (yp vs t=(yp (vs.drop k) t).map (·+k))) (fun i=>vs.length-(intOf i).toNat)
 case atStart=>exact⟨0,zx _,rfl,by simp[Hid]⟩
 case round=>
  obtain⟨k,p,rfl,H⟩:=hrel;by_cases a:k<vs.length
  ·obtain⟨g,rfl,r,j⟩:=hs.cell k a;by_cases d:vs[k]=t
   ·have n:=kL d;have b:Hid (yp vs t=some k):=by rw[Hid,H.out,it a d];simp
    go_wp2;go_ret2
    exact⟨by rw[b.out];rfl,rfl⟩
   ·have n:=jp d;have b:Hid (yp vs t=(yp (vs.drop (k+1)) t).map (·+(k+1))):=by
     rw[Hid,H.out,wn a d];cases yp (vs.drop (k+1)) t<;>simp;omega
    go_wp2;go_round
    case rel=>exact⟨k+1,by omega,by go_num,b⟩
    case measure=>simp[intOf];omega
  ·have b:Hid (yp vs t=none):=by rw[Hid,H.out,ug (by omega)];rfl
   go_wp2;go_ret2
   exact⟨by rw[b.out];rfl,rfl⟩
theorem rA(w:World)(b:Nat)(c:Value)(vs:List ByteArray)(t:ByteArray)(a:Py w b #[c] 246)(hs:P7 lo w c vs)(g:vs.length<=1000):
  Calls prog 183 #[.pointer (some ⟨b,0,none⟩),.string t] w fun e d=>e=.returned (.bool (yZ t vs))/\d=w:=by
 rw[←i8 vs t];have f:=Px (Hj w b c vs t a hs g);generalize yp vs t=o at *;go_enter func183,ntmps183;go_wp2_with (first|(go_at_call 200;refine f.out.mono ?_;rintro e d ⟨rfl,rfl⟩;clear f))
 go_ret;exact⟨rfl,rfl⟩
end
section
open Go.Proofs.Tryz
variable {lo:Nat}{w:World}{c:Array Value}{vs:List ByteArray}{t:ByteArray}
theorem Py.set{b:Nat}{T:TypeId}(h:Py w b c T)(o:Nat)(u:Value):Py (w.setCell ⟨b,o,none⟩ u) b (c.setIfInBounds o u) T:=by
 unfold Py at *;simp[World.setCell,Array.getElem?_modify,h]
theorem Py.set_ne{b b':Nat}{T:TypeId}(h:Py w b c T)(a:b≠b')(o:Nat)(u:Value):Py (w.setCell ⟨b',o,none⟩ u) b c T:=by
 unfold Py at *;rw[Below.heap_setCell _ _ _ _ a];exact h
theorem Py.push{d o:World}{b:Nat}{e T:TypeId}{s:Nat}{v:Value}{n l:Nat}{r:List Value}(u:d.ownsRow b e s v n r)(g:e≠T)(h:Py d l c T)
  (x:∀k,k<d.heap.size->some k≠v.ownBlock->o.heap[k]?=d.heap[k]?):Py o l c T:=by
 have i:=h.lt;unfold Py at *;rw[x l i ?_]
 ·exact h
 ·intro j;obtain⟨_,⟨m,_⟩|⟨y,q,p,f,_,a,_⟩⟩:=u
  ·subst m;cases j
  ·subst f;simp only[Value.ownBlock,zr] at j;subst j;rw[h] at a;simp at a;exact g a.2.symm
structure fq (vb:Nat) (w w':World):Prop where
 size:w.heap.size<=w'.heap.size
 box:∀b c T,b≠vb->T≠9->Py w b c T->Py w' b c T
theorem fq.trans{d:Nat}{a b c:World}(h:fq d a b)(k:fq d b c):fq d a c:=⟨zT h.size k.size,fun x y z f e g=>k.box x y z f e (h.box x y z f e g)⟩
theorem fq.of{b:Nat}{a:World}(h:Below w.heap.size w a):fq b w a:=⟨h.size,fun _ _ _ _ _ k=>k.below h⟩
def VA(B:Nat)(w:World)(b:Nat)(vs:List ByteArray):Prop:=∃a,Py w b #[a] 246/\w.ownsRow B 9 1 a vs.length (vs.map Value.string)
theorem VA.below{B:Nat}{w b:World}{d:Nat}{vs:List ByteArray}(h:VA B w d vs)(a:Below w.heap.size w b):VA B b d vs:=by
 obtain⟨f,g,e⟩:=h;exact⟨f,g.below a,zC e a⟩
theorem AB(vs args:List ByteArray)(k:Nat)(a:k<args.length):xn vs (args.take (k+1))=jz (xn vs (args.take k)) args[k]:=by
 unfold xn;rw[yP a,js];rfl
theorem Be(b:zO t=true)(a:yZ t vs=false):jz vs t=vs++[t]:=by simp[jz,b,a]
theorem Bh(a:zO t=false):jz vs t=vs:=by simp[jz,a]
theorem Em(a:yZ t vs=true):jz vs t=vs:=by simp[jz,a]
theorem Q7(f w:World)(d:Nat)(vs args:List ByteArray)(neg:Bool)(s:ByteArray)(U:Value)(X:Below f.heap.size f w)(hs:P7 lo f U args)(G:VA f.heap.size w d vs)(R:f.heap.size<=d)(hl:vs.length+args.length<=1000):
  Calls prog 182 #[.pointer (some ⟨d,0,none⟩),.agg #[.bool neg,.string s,U]] w fun e p=>e=.returned (.tuple #[])/\VA f.heap.size p d (xn vs args)/\Below f.heap.size f p/\fq d w p:=by
 obtain⟨i0,hi,H,J,P⟩:=info_parts Po;obtain⟨ao,N,rfl⟩:=hs.qx;have V:=X.size;go_enter func182,ntmps182;go_wp2;go_loopw [9] (fun i wr=>∃k:Nat,k<=args.length/\i=.int .i64 k/\VA f.heap.size wr d (xn vs (args.take k))/\Below f.heap.size f wr/\fq d w wr) (fun i _=>args.length-(intOf i).toNat)
 case atStart=>
  have I:=(zo w.heap.size w).alloc (zf _) (.cells #[.bool neg,.string s,.slice ao args.length N] 90);exact⟨0,zx _,rfl,G.below I,P3 X I,fq.of I⟩
 case round=>
  obtain⟨k,hk,rfl,q,h,o⟩:=hrel;by_cases D:k<args.length
  ·obtain⟨g,rfl,hg,ad⟩:=(hs.below h).cell k D;have F:=AB vs args k D;have y:=m6 (args.take k) vs;have z:(args.take k).length=k:=by simp;omega
   rw[z] at y;clear z;generalize args[k]=t at *;generalize xn vs (args.take k)=n at *;have v:=Px F;clear F;cases S:zO t with
   |false=>
    have r:xn vs (args.take (k+1))=n:=by rw[v.out,Bh S]
    have B:=Px r;clear r v;go_wp2_with (go_at_call 156;refine(fC _ _).mono ?_;rintro e p ⟨rfl,rfl⟩)
    go_roundw
    case rel=>exact⟨k+1,by omega,by go_num,by rw[B.out];exact q,h,o⟩
    case measure=>simp[intOf];omega
   |true=>
    obtain⟨nv,l,a⟩:=q;obtain⟨ac,Z,rfl⟩:=zs a;obtain⟨hc,hf⟩:=l.rules;cases Y:yZ t n with
    |true=>
     have r:xn vs (args.take (k+1))=n:=by rw[v.out,Em Y]
     have B:=Px r;clear r v;go_wp2_with (first|(go_at_call 156;refine(fC _ _).mono ?_;rintro e p ⟨rfl,rfl⟩)|(go_at_call 183;refine(rA _ d _ n t l a (by omega)).mono ?_;rintro e p ⟨rfl,rfl⟩))
     go_roundw
     case rel=>exact⟨k+1,by omega,by go_num,by rw[B.out];exact⟨_,l,a⟩,h,o⟩
     case measure=>simp[intOf];omega
    |false=>
     have r:xn vs (args.take (k+1))=n++[t]:=by rw[v.out,Be S Y]
     have B:=Px r;clear r v;go_wp2_with (first|(go_at_call 156;refine(fC _ _).mono ?_;rintro e p ⟨rfl,rfl⟩)|(go_at_call 183;refine(rA _ d _ n t l a (by omega)).mono ?_;rintro e p ⟨rfl,rfl⟩)|(at_builtin;refine jS _ _ _ _ rfl (.tmp 25) (.tmp 27) 30 rfl f.heap.size 9 i0 _ 1 16 underlying30 hi H J P rfl (by decide) _ _ _ rfl a (zo _ _) _ _ rfl (by simp) rfl (by simp[Value.oneCell']) (by omega) (by omega) h.size ?_;intro v' K x M L O C E;clear L O;obtain⟨u,m,rfl⟩:=zs x;have j:=Py.push a (by decide) l C;obtain⟨ab,aa⟩:=j.rules))
     have Q:fq d p (K.setCell ⟨d,0,none⟩ (.slice u (n.length+1) m)):=⟨by simp[World.setCell];exact E,fun b c T h1 h2 h3=>(Py.push a (Ne.symm h2) h3 C).set_ne h1 _ _⟩;have A:VA f.heap.size (K.setCell ⟨d,0,none⟩ (.slice u (n.length+1) m)) d (n++[t]):=⟨_,j.set 0 _,by
      have:=xK x ((PB.refl d K).setCell 0 (.slice u (n.length+1) m)) j (by decide);simpa using this⟩
     go_roundw
     case rel=>exact⟨k+1,by omega,by go_num,by rw[B.out];exact A,(h.trans M).setCell R _,o.trans Q⟩
     case measure=>simp[intOf];omega
  ·have W:args.take k=args:=xi (by omega);rw[W] at q;clear W;go_wp2;go_end0
   exact⟨rfl,q,h,o⟩
end
section
open Go.Proofs.Tryz
variable {lo:Nat}
theorem PX.cell{w:World}{i:Option Addr}{n cap:Nat}{c:List zj}(h:PX lo w (.slice i n cap) c)(k:Nat)(l:k<c.length):∃g b a,i=some ⟨g,0,none⟩/\g<w.heap.size ∧
  w.cell? ⟨g,k*3,none⟩=some (.bool c[k].neg)/\w.cell? ⟨g,k*3+1,none⟩=some (.string c[k].pred)/\w.cell? ⟨g,k*3+2,none⟩=some (.slice b c[k].args.length a)/\P7 lo w (.slice b c[k].args.length a) c[k].args:=by
 obtain⟨t,o,s⟩:=h;obtain⟨g,j,f,_,m,d⟩:=yC o (by omega);simp at f;obtain⟨u,q,p,r,e⟩:=s.at k c[k] (by simp[l]);obtain⟨b,a,rfl⟩:=e.qx;exact⟨g,b,a,f.1,m,d _ _ q,d _ _ p,d _ _ r,e⟩
def kt(vs:List ByteArray)(l:zj):List ByteArray:=xn vs l.args
def vA(vs:List ByteArray)(l:zj):List ByteArray:=if l.neg then vs else xn vs l.args
def xI(c:zc):List ByteArray:=c.body.foldl kt (xn [] c.head.args)
def z7(c:zc):List ByteArray:=c.body.foldl vA []
def xf(a:List zj):Nat:=a.foldr (fun l n=>l.args.length+n) 0
theorem ru(b:List zj):∀k,k<b.length->xf (b.take k)+(b[k]?.map (·.args.length)).getD 0<=xf b:=by
 induction b with
 |nil=>intro k h;simp at h
 |cons a b c=>
  intro k h;cases k with
  |zero=>simp[xf]
  |succ k=>have:=c k (by simpa using h);simp[xf] at this ⊢;omega
theorem FW(c:List zj)(a:zj):xf (c++[a])=xf c+a.args.length:=by
 induction c with
 |nil=>simp[xf]
 |cons b c d=>simp[xf] at d ⊢;omega
theorem Et(b:List zj):∀vs:List ByteArray,(b.foldl kt vs).length<=vs.length+xf b:=by
 induction b with
 |nil=>intro vs;simp[xf]
 |cons a b c=>intro vs;have:=c (kt vs a);have:=m6 a.args vs;simp[xf,kt] at *;omega
theorem t7(b:List zj):∀vs:List ByteArray,(b.foldl vA vs).length<=vs.length+xf b:=by
 induction b with
 |nil=>intro vs;simp[xf]
 |cons a b c=>
  intro vs;have e:=c (vA vs a);have d:=m6 a.args vs;have f:(vA vs a).length<=vs.length+a.args.length:=by unfold vA;split<;>omega
  simp[xf] at *;omega
theorem LU(w:World)(c:zc)(R V:Value)(hs:P7 lo w R c.head.args)(S:PX lo w V c.body)(hl:c.head.args.length+xf c.body<=1000)(ac:c.body.length<=1000):
  Calls prog 145 #[.agg #[.bool c.head.neg,.string c.head.pred,R,V]] w fun e Q=>∃I,e=.returned (.agg #[I])/\Q.ownsRow w.heap.size 9 1 I (xI c).length ((xI c).map Value.string)/\Below w.heap.size w Q:=by
 obtain⟨r,h,rfl⟩:=hs.qx;obtain⟨d,b,rfl⟩:=S.qx;have K:Below w.heap.size w (((w.alloc (.cells #[.bool c.head.neg,.string c.head.pred,.slice r c.head.args.length h,.slice d c.body.length b] 171)).alloc (.cells #[.slice none 0 0] 246)).alloc (.cells #[.slice none 0 0] 246)):=(by go_grown);have B:VA w.heap.size (((w.alloc (.cells #[.bool c.head.neg,.string c.head.pred,.slice r c.head.args.length h,.slice d c.body.length b] 171)).alloc (.cells #[.slice none 0 0] 246)).alloc (.cells #[.slice none 0 0] 246)) (w.heap.size+2) []:=⟨_,by have:=Py.new ((w.alloc (.cells #[.bool c.head.neg,.string c.head.pred,.slice r c.head.args.length h,.slice d c.body.length b] 171)).alloc (.cells #[.slice none 0 0] 246)) #[.slice none 0 0] 246;simpa using this,yI _ _ _ _⟩;have s:Py (((w.alloc (.cells #[.bool c.head.neg,.string c.head.pred,.slice r c.head.args.length h,.slice d c.body.length b] 171)).alloc (.cells #[.slice none 0 0] 246)).alloc (.cells #[.slice none 0 0] 246)) (w.heap.size+1) #[.slice none 0 0] 246:=by have:=(Py.new (w.alloc (.cells #[.bool c.head.neg,.string c.head.pred,.slice r c.head.args.length h,.slice d c.body.length b] 171)) #[.slice none 0 0] 246).below ((zo _ _).alloc (zf _) (.cells #[.slice none 0 0] 246));simpa using this
 have z:Py (((w.alloc (.cells #[.bool c.head.neg,.string c.head.pred,.slice r c.head.args.length h,.slice d c.body.length b] 171)).alloc (.cells #[.slice none 0 0] 246)).alloc (.cells #[.slice none 0 0] 246)) w.heap.size #[.bool c.head.neg,.string c.head.pred,.slice r c.head.args.length h,.slice d c.body.length b] 171:=((Py.new w _ _).below zQ).below zQ;go_enter func145,ntmps145;go_wp2_with (first|(go_at_call 182;refine(Q7 w _ (w.heap.size+2) [] c.head.args _ _ _ (by exact K) hs (by exact B) (by omega) (by simp;omega)).mono ?_;rintro e w1 ⟨rfl,j,t,o⟩;have f:=o.box _ _ _ (by omega) (by decide) s;have A:=o.box _ _ _ (by omega) (by decide) z;obtain⟨ad,af,N⟩:=A.boxed))
 go_loopw [12] (fun i wr=>∃k:Nat,k<=c.body.length/\i=.int .i64 k/\VA w.heap.size wr (w.heap.size+2) ((c.body.take k).foldl kt (xn [] c.head.args))/\Below w.heap.size w wr/\Py wr (w.heap.size+1) #[.slice none 0 0] 246) (fun i _=>c.body.length-(intOf i).toNat)
 case atStart=>exact⟨0,zx _,rfl,j,t,f⟩
 case round=>
  obtain⟨k,hk,rfl,x,n,u⟩:=hrel;have P:=n.size;by_cases l:k<c.body.length
  ·obtain⟨g,aa,U,rfl,M,E,F,m,L⟩:=S.cell k l;have W:=zm n M E;have Y:=zm n M F;have ab:=zm n M m;have X:g<wr.heap.size:=by omega
   have O:=Et (c.body.take k) (xn [] c.head.args);have y:=ru c.body k l;have J:=m6 c.head.args [];have G:(c.body.take (k+1)).foldl kt (xn [] c.head.args)=kt ((c.body.take k).foldl kt (xn [] c.head.args)) c.body[k]:=by rw[yP l,js];rfl
   rw[yr l] at y;simp only[jj,ux] at y;clear E F m;generalize c.body[k]=a at *;generalize (c.body.take k).foldl kt (xn [] c.head.args)=vk at *;have HS:=Px G;clear G;go_wp2_with (first|(go_at_call 182;refine(Q7 w _ (w.heap.size+2) vk a.args _ _ _ (by exact(by go_grown)) L (by exact x.below (by go_grown)) (by omega) (by simp at *;omega)).mono ?_;rintro e w1 ⟨rfl,j,t,o⟩;have f:=o.box _ _ _ (by omega) (by decide) (u.below (by go_grown))))
   go_roundw
   case rel=>exact⟨k+1,by omega,by go_num,by rw[HS.out];exact j,t,f⟩
   case measure=>simp[intOf];omega
  ·have T:c.body.take k=c.body:=xi (by omega);rw[T] at x;obtain⟨I,C,p⟩:=x;obtain⟨D,q,rfl⟩:=zs p;obtain⟨hc,hf⟩:=C.rules;obtain⟨m,ae⟩:=u.rules;have Z:=C.lt;clear T;go_wp2;have H:=xK p ((PB.refl (w.heap.size+1) wr).setCell 0 (.slice D (c.body.foldl kt (xn [] c.head.args)).length q)) u (by decide);exact zK (v:=.agg #[.slice D (c.body.foldl kt (xn [] c.head.args)).length q]) (by simp[results,results145,go_sem,m]) rfl ⟨_,rfl,H,(by go_grown)⟩
theorem w9(w:World)(c:zc)(U Y:Value)(hs:P7 lo w U c.head.args)(V:PX lo w Y c.body)(hl:c.head.args.length+xf c.body<=1000)(ae:c.body.length<=1000):
  Calls prog 148 #[.agg #[.bool c.head.neg,.string c.head.pred,U,Y]] w fun e T=>∃H,e=.returned (.agg #[H])/\T.ownsRow w.heap.size 9 1 H (z7 c).length ((z7 c).map Value.string)/\Below w.heap.size w T:=by
 obtain⟨q,f,rfl⟩:=hs.qx;obtain⟨d,b,rfl⟩:=V.qx;have K:Below w.heap.size w (((w.alloc (.cells #[.bool c.head.neg,.string c.head.pred,.slice q c.head.args.length f,.slice d c.body.length b] 171)).alloc (.cells #[.slice none 0 0] 246)).alloc (.cells #[.slice none 0 0] 246)):=(by go_grown);have x:VA w.heap.size (((w.alloc (.cells #[.bool c.head.neg,.string c.head.pred,.slice q c.head.args.length f,.slice d c.body.length b] 171)).alloc (.cells #[.slice none 0 0] 246)).alloc (.cells #[.slice none 0 0] 246)) (w.heap.size+2) []:=⟨_,by have:=Py.new ((w.alloc (.cells #[.bool c.head.neg,.string c.head.pred,.slice q c.head.args.length f,.slice d c.body.length b] 171)).alloc (.cells #[.slice none 0 0] 246)) #[.slice none 0 0] 246;simpa using this,yI _ _ _ _⟩;have r:Py (((w.alloc (.cells #[.bool c.head.neg,.string c.head.pred,.slice q c.head.args.length f,.slice d c.body.length b] 171)).alloc (.cells #[.slice none 0 0] 246)).alloc (.cells #[.slice none 0 0] 246)) (w.heap.size+1) #[.slice none 0 0] 246:=by have:=(Py.new (w.alloc (.cells #[.bool c.head.neg,.string c.head.pred,.slice q c.head.args.length f,.slice d c.body.length b] 171)) #[.slice none 0 0] 246).below ((zo _ _).alloc (zf _) (.cells #[.slice none 0 0] 246));simpa using this
 have S:Py (((w.alloc (.cells #[.bool c.head.neg,.string c.head.pred,.slice q c.head.args.length f,.slice d c.body.length b] 171)).alloc (.cells #[.slice none 0 0] 246)).alloc (.cells #[.slice none 0 0] 246)) w.heap.size #[.bool c.head.neg,.string c.head.pred,.slice q c.head.args.length f,.slice d c.body.length b] 171:=((Py.new w _ _).below zQ).below zQ;go_enter func148,ntmps148;go_wp2;go_loopw [9] (fun i wr=>∃k:Nat,k<=c.body.length/\i=.int .i64 k/\VA w.heap.size wr (w.heap.size+2) ((c.body.take k).foldl vA [])/\Below w.heap.size w wr/\Py wr (w.heap.size+1) #[.slice none 0 0] 246) (fun i _=>c.body.length-(intOf i).toNat)
 case atStart=>exact⟨0,zx _,rfl,x,K,r⟩
 case round=>
  obtain⟨k,hk,rfl,n,l,m⟩:=hrel;have Q:=l.size;by_cases h:k<c.body.length
  ·obtain⟨g,ac,X,rfl,O,C,D,j,L⟩:=V.cell k h;have y:=zm l O C;have aa:=zm l O D;have ad:=zm l O j;have Z:g<wr.heap.size:=by omega
   have R:=t7 (c.body.take k) [];have u:=ru c.body k h;have J:True:=trivial;have E:(c.body.take (k+1)).foldl vA []=vA ((c.body.take k).foldl vA []) c.body[k]:=by rw[yP h,js];rfl
   rw[yr h] at u;simp only[jj,ux] at u;clear C D j;generalize c.body[k]=a at *;generalize (c.body.take k).foldl vA []=N at *;have F:=Px E;clear E;cases t:a.neg with
   |true=>
    rw[t] at y;have M:Hid ((c.body.take (k+1)).foldl vA []=N):=by rw[Hid,F.out,vA,t,zb rfl]
    clear F t;go_wp2;go_roundw
    case rel=>exact⟨k+1,by omega,by go_num,by rw[M.out];exact n.below (by go_grown),(by go_grown),m.below (by go_grown)⟩
    case measure=>simp[intOf];omega
   |false=>
    rw[t] at y;have M:Hid ((c.body.take (k+1)).foldl vA []=xn N a.args):=by rw[Hid,F.out,vA,t];rfl
    clear F t;go_wp2_with (first|(go_at_call 182;refine(Q7 w _ (w.heap.size+2) N a.args _ _ _ (by exact(by go_grown)) L (by exact n.below (by go_grown)) (by omega) (by simp at *;omega)).mono ?_;rintro e w1 ⟨rfl,B,I,P⟩;have s:=P.box _ _ _ (by omega) (by decide) (m.below (by go_grown))))
    go_roundw
    case rel=>exact⟨k+1,by omega,by go_num,by rw[M.out];exact B,I,s⟩
    case measure=>simp[intOf];omega
  ·have W:c.body.take k=c.body:=xi (by omega);rw[W] at n;obtain⟨H,z,o⟩:=n;obtain⟨A,p,rfl⟩:=zs o;obtain⟨hc,hf⟩:=z.rules;obtain⟨j,af⟩:=m.rules;have ab:=z.lt;clear W;go_wp2;have G:=xK o ((PB.refl (w.heap.size+1) wr).setCell 0 (.slice A (c.body.foldl vA []).length p)) m (by decide);exact zK (v:=.agg #[.slice A (c.body.foldl vA []).length p]) (by simp[results,results148,go_sem,j]) rfl ⟨_,rfl,G,(by go_grown)⟩
theorem QV(w:World)(c:Nat)(b:Value)(vs:List ByteArray)(a:Py w c #[b] 246)(hs:P7 lo w b vs):
  Calls prog 146 #[.pointer (some ⟨c,0,none⟩)] w fun e f=>e=.returned (.int .i64 vs.length)/\f=w:=by
 obtain⟨i,g⟩:=a.rules;obtain⟨h,d,rfl⟩:=hs.qx;go_enter func146,ntmps146;go_wp2;go_ret;exact⟨rfl,rfl⟩
def qn(vs args:List ByteArray):Bool:=args.all fun t=>!zO t||yZ t vs
theorem eZ{α:Type}(l:List α)(p:α->Bool)(k:Nat)(a:k<l.length):(l.drop k).all p=(p l[k]&&(l.drop (k+1)).all p):=by rw[xk a,List.all_cons]
theorem tW{α:Type}(l:List α)(p:α->Bool)(k:Nat)(a:k<l.length):(l.drop k).any p=(p l[k]||(l.drop (k+1)).any p):=by rw[xk a,List.any_cons]
theorem tH(w:World)(m:Nat)(r:Value)(vs args:List ByteArray)(neg:Bool)(c:ByteArray)(u:Value)(h:Py w m #[r] 246)(z:P7 lo w r vs){o:Nat}(hs:P7 o w u args)(y:vs.length<=1000)(B:args.length<=1000):
  Calls prog 149 #[.pointer (some ⟨m,0,none⟩),.agg #[.bool neg,.string c,u]] w fun e f=>e=.returned (.bool (qn vs args))/\Below w.heap.size w f:=by
 obtain⟨A,q,rfl⟩:=hs.qx;have b:=(zo w.heap.size w).alloc (zf _) (.cells #[.bool neg,.string c,.slice A args.length q] 90);have a:=h.below b;have l:=z.below b;go_enter func149,ntmps149;go_wp2;go_loop [10] (fun i=>∃k:Nat,k<=args.length/\i=.int .i64 k/\Hid (qn vs args=(args.drop k).all fun t=>!zO t||yZ t vs)) (fun i=>args.length-(intOf i).toNat)
 case atStart=>exact⟨0,zx _,rfl,rfl⟩
 case round=>
  obtain⟨k,D,rfl,H⟩:=hrel;by_cases j:k<args.length
  ·obtain⟨g,rfl,E,C⟩:=hs.cell k j;have n:=eZ args (fun t=>!zO t||yZ t vs) k j;generalize args[k]=x at *;have p:Hid (qn vs args=((!zO x||yZ x vs)&&(args.drop (k+1)).all fun t=>!zO t||yZ t vs)):=by rw[Hid,H.out,n]
   cases s:zO x with
   |false=>
    have d:Hid (qn vs args=(args.drop (k+1)).all fun t=>!zO t||yZ t vs):=by rw[Hid,p.out,s];rfl
    go_wp2_with (first|(go_at_call 156;refine(fC _ _).mono ?_;rintro e f ⟨rfl,rfl⟩))
    go_round
    case rel=>exact⟨k+1,by omega,by go_num,d⟩
    case measure=>simp[intOf];omega
   |true=>
    cases v:yZ x vs with
    |true=>
     have d:Hid (qn vs args=(args.drop (k+1)).all fun t=>!zO t||yZ t vs):=by rw[Hid,p.out,v];simp
     go_wp2_with (first|(go_at_call 156;refine(fC _ _).mono ?_;rintro e f ⟨rfl,rfl⟩)|(go_at_call 183;refine(rA _ m _ vs x a l y).mono ?_;rintro e f ⟨rfl,rfl⟩))
     go_round
     case rel=>exact⟨k+1,by omega,by go_num,d⟩
     case measure=>simp[intOf];omega
    |false=>
     have d:Hid (qn vs args=false):=by rw[Hid,p.out,v,s];rfl
     go_wp2_with (first|(go_at_call 156;refine(fC _ _).mono ?_;rintro e f ⟨rfl,rfl⟩)|(go_at_call 183;refine(rA _ m _ vs x a l y).mono ?_;rintro e f ⟨rfl,rfl⟩))
     go_ret;exact⟨by rw[d.out];rfl,b⟩
  ·have d:Hid (qn vs args=true):=by rw[Hid,H.out,ug (by omega)];rfl
   go_wp2;go_ret;exact⟨by rw[d.out];rfl,b⟩
def yE(c:zc):Bool:=decide (3<c.head.args.length)||decide (6<c.body.length)||c.body.any (fun l=>decide (3<l.args.length))||decide (5<(xI c).length)
def xo(c:zc):Bool:=qn (z7 c) c.head.args&&c.body.all fun l=>!l.neg||qn (z7 c) l.args
theorem Bz(w:World)(c:zc)(x L:Value)(hs:P7 lo w x c.head.args)(A:PX lo w L c.body)(hl:c.head.args.length+xf c.body<=1000)(J:c.body.length<=1000):
  Calls prog 101 #[.agg #[.bool c.head.neg,.string c.head.pred,x,L]] w fun e S=>e=.returned (.bool (yE c))/\Below w.heap.size w S:=by
 have h:=fun W B F=>LU (lo:=lo) W c x L B F hl J;obtain⟨T,K,rfl⟩:=hs.qx;obtain⟨z,o,rfl⟩:=A.qx;have p:=Px h;clear h;by_cases f:3<c.head.args.length∨6<c.body.length
 ·have j:Hid (yE c=true):=by unfold Hid yE;rcases f with f|f<;>simp[f]
  go_enter func101,ntmps101;rcases f with f|f
  ·go_wp2;go_ret;exact⟨by rw[j.out];rfl,(by go_grown)⟩
  ·by_cases N:3<c.head.args.length
   all_goals
    go_wp2;go_ret;exact⟨by rw[j.out];rfl,(by go_grown)⟩
 ·have N:¬3<c.head.args.length:=by omega
  have h6:¬6<c.body.length:=by omega
  have j:Hid (yE c=(c.body.any (fun l=>decide (3<l.args.length))||decide (5<(xI c).length))):=by unfold Hid yE;simp[N,h6]
  clear f;go_enter func101,ntmps101;go_wp2;go_loopw [20] (fun i wr=>∃k:Nat,k<=c.body.length/\i=.int .i64 k/\Below w.heap.size w wr/\Py wr w.heap.size #[.bool c.head.neg,.string c.head.pred,.slice T c.head.args.length K,.slice z c.body.length o] 171/\Hid (yE c=((c.body.drop k).any (fun l=>decide (3<l.args.length))||decide (5<(xI c).length)))) (fun i _=>c.body.length-(intOf i).toNat)
  case atStart=>exact⟨0,zx _,rfl,(by go_grown),Py.new _ _ _,j⟩
  case round=>
   obtain⟨k,hk,rfl,b,m,H⟩:=hrel;have M:=b.size;by_cases s:k<c.body.length
   ·obtain⟨g,aa,Q,rfl,G,q,u,t,C⟩:=A.cell k s;have U:=zm b G q;have Y:=zm b G u;have ab:=zm b G t;have V:g<wr.heap.size:=by omega
    have n:=tW c.body (fun l=>decide (3<l.args.length)) k s;clear q u t C;generalize c.body[k]=a at *;have v:Hid (yE c=(decide (3<a.args.length)||(c.body.drop (k+1)).any (fun l=>decide (3<l.args.length))||decide (5<(xI c).length))):=by rw[Hid,H.out,n]
    clear n H j;by_cases P:3<a.args.length
    ·have r:Hid (yE c=true):=by rw[Hid,v.out];simp[P]
     clear v;go_wp2;go_ret;exact⟨by rw[r.out];rfl,(by go_grown)⟩
    ·have r:Hid (yE c=((c.body.drop (k+1)).any (fun l=>decide (3<l.args.length))||decide (5<(xI c).length))):=by rw[Hid,v.out];simp[P]
     clear v;go_wp2;go_roundw
     case rel=>exact⟨k+1,by omega,by go_num,(by go_grown),m.below (by go_grown),r⟩
     case measure=>simp[intOf];omega
   ·have r:Hid (yE c=decide (5<(xI c).length)):=by rw[Hid,H.out,ug (by omega)];simp
    have D:=hs.below b;have I:=A.below b;obtain⟨hc,hf,O⟩:=m.boxed;clear H j;go_wp2_with (first|(go_at_call 145;refine(p.out _ D I).mono ?_;rintro e w1 ⟨nv,rfl,d,y⟩;obtain⟨X,R,rfl⟩:=zs d;have E:=P3 b y;have Z:=E.size)|(go_at_call 146;refine(QV _ _ _ (xI c) (by exact Py.new _ _ _) (by exact zC d (by go_grown))).mono ?_;rintro e w2 ⟨rfl,rfl⟩))
    go_ret;exact⟨by rw[r.out];simp;omega,(by go_grown)⟩
theorem Bi(w:World)(c:zc)(V vb:Value)(hs:P7 lo w V c.head.args)(T:PX lo w vb c.body)(hl:c.head.args.length+xf c.body<=1000)(ae:c.body.length<=1000):
  Calls prog 103 #[.agg #[.bool c.head.neg,.string c.head.pred,V,vb]] w fun e w'=>e=.returned (.bool (xo c))/\Below w.heap.size w w':=by
 have y:=fun W aa ad=>w9 (lo:=lo) W c V vb aa ad hl ae;obtain⟨ao,ap,rfl⟩:=hs.qx;obtain⟨aj,ag,rfl⟩:=T.qx;have v:=Px y;clear y;have s:(z7 c).length<=1000:=by have:=t7 c.body [];unfold z7;simp at this;omega
 have o:∀k (U:k<c.body.length),c.body[k].args.length<=1000:=fun k U=>by
  have:=ru c.body k U;rw[yr U] at this;simp at this;omega
 have G:=Px o;clear o;cases hH:qn (z7 c) c.head.args with
 |false=>
  have R:Hid (xo c=false):=by unfold Hid xo;simp[hH]
  go_enter func103,ntmps103;go_wp2_with (first|(go_at_call 148;refine(v.out _ (by exact hs.below (by go_grown)) (by exact T.below (by go_grown))).mono ?_;rintro e X ⟨nv,rfl,b,m⟩;obtain⟨B,n,rfl⟩:=zs b;have h:=P3 zQ m;have C:=h.size;have j:=(Py.new w _ _).below m;obtain⟨ab,Y,M⟩:=j.boxed)|(go_at_call 149;refine(tH _ _ _ (z7 c) c.head.args _ _ _ (by exact Py.new _ _ _) (by exact zC b (by go_grown)) (by exact(hs.below h).below (by go_grown)) s (by omega)).mono ?_;rintro e w2 ⟨rfl,f⟩;have I:=P3 (h.alloc C _) f))
  go_ret;exact⟨by rw[R.out];rfl,I⟩
 |true=>
  have R:Hid (xo c=c.body.all fun l=>!l.neg||qn (z7 c) l.args):=by unfold Hid xo;simp[hH]
  go_enter func103,ntmps103;go_wp2_with (first|(go_at_call 148;refine(v.out _ (by exact hs.below (by go_grown)) (by exact T.below (by go_grown))).mono ?_;rintro e X ⟨nv,rfl,b,m⟩;obtain⟨B,n,rfl⟩:=zs b;have h:=P3 zQ m;have C:=h.size;have j:=(Py.new w _ _).below m;obtain⟨ab,Y,M⟩:=j.boxed)|(go_at_call 149;refine(tH _ _ _ (z7 c) c.head.args _ _ _ (by exact Py.new _ _ _) (by exact zC b (by go_grown)) (by exact(hs.below h).below (by go_grown)) s (by omega)).mono ?_;rintro e w2 ⟨rfl,f⟩;have I:=P3 (h.alloc C _) f;have Z:=f.size;simp only[World.size_alloc] at Z;have L:=(j.below zQ).below f;obtain⟨am,aq,ac⟩:=L.boxed;have K:=(Py.new X _ _).below f;have z:=zC (zC b zQ) f))
  go_loopw [15] (fun i wr=>∃k:Nat,k<=c.body.length/\i=.int .i64 k/\Below w.heap.size w wr/\Py wr X.heap.size #[.slice B (z7 c).length n] 246/\P7 0 wr (.slice B (z7 c).length n) (z7 c)/\Hid (xo c=(c.body.drop k).all fun l=>!l.neg||qn (z7 c) l.args)) (fun i _=>c.body.length-(intOf i).toNat)
  case atStart=>exact⟨0,zx _,rfl,I,K,yq z (zx _),R⟩
  case round=>
   obtain⟨k,U,rfl,d,r,q,H⟩:=hrel;have af:=d.size;by_cases F:k<c.body.length
   ·obtain⟨g,al,ah,rfl,hg,Q,t,u,S⟩:=T.cell k F;have O:=zm d hg Q;have ak:=zm d hg t;have an:=zm d hg u;have ai:g<wr.heap.size:=by omega
    have P:=eZ c.body (fun l=>!l.neg||qn (z7 c) l.args) k F;have x:=S.below d;have N:=G.out k F;clear Q t u S;generalize c.body[k]=a at *;have J:Hid (xo c=((!a.neg||qn (z7 c) a.args)&&(c.body.drop (k+1)).all fun l=>!l.neg||qn (z7 c) l.args)):=by rw[Hid,H.out,P]
    clear P H R;cases A:a.neg with
    |false=>
     have E:Hid (xo c=(c.body.drop (k+1)).all fun l=>!l.neg||qn (z7 c) l.args):=by rw[Hid,J.out,A];rfl
     rw[A] at O;clear J A;go_wp2;go_roundw
     case rel=>exact⟨k+1,by omega,by go_num,(by go_grown),r.below (by go_grown),q.below (by go_grown),E⟩
     case measure=>simp[intOf];omega
    |true=>
     rw[A] at O;cases hC:qn (z7 c) a.args with
     |true=>
      have E:Hid (xo c=(c.body.drop (k+1)).all fun l=>!l.neg||qn (z7 c) l.args):=by rw[Hid,J.out,hC];simp
      clear J A;go_wp2_with (first|(go_at_call 149;refine(tH _ _ _ (z7 c) a.args _ _ _ (by exact r.below (by go_grown)) (by exact q.below (by go_grown)) (by exact x.below (by go_grown)) s N).mono ?_;rintro e w3 ⟨rfl,D⟩;have p:=P3 ((zo wr.heap.size wr).alloc (zf _) _) D))
      go_roundw
      case rel=>exact⟨k+1,by omega,by go_num,P3 d p,r.below p,q.below p,E⟩
      case measure=>simp[intOf];omega
     |false=>
      have E:Hid (xo c=false):=by rw[Hid,J.out,hC,A];rfl
      clear J A;go_wp2_with (first|(go_at_call 149;refine(tH _ _ _ (z7 c) a.args _ _ _ (by exact r.below (by go_grown)) (by exact q.below (by go_grown)) (by exact x.below (by go_grown)) s N).mono ?_;rintro e w3 ⟨rfl,D⟩;have p:=P3 ((zo wr.heap.size wr).alloc (zf _) _) D))
      go_ret;exact⟨by rw[E.out];rfl,P3 d p⟩
   ·have E:Hid (xo c=true):=by rw[Hid,H.out,ug (by omega)];rfl
    clear H R;go_wp2;go_ret;exact⟨by rw[E.out];rfl,d⟩
theorem Qa.cell{T:TypeId}{w:World}{j:Option Addr}{n cap:Nat}{cs:List zc}(h:Qa lo T w (.slice j n cap) cs)(k:Nat)(r:k<cs.length):∃g e a c b,j=some ⟨g,0,none⟩/\g<w.heap.size ∧
  w.cell? ⟨g,k*4,none⟩=some (.bool cs[k].head.neg)/\w.cell? ⟨g,k*4+1,none⟩=some (.string cs[k].head.pred)/\w.cell? ⟨g,k*4+2,none⟩=some (.slice e cs[k].head.args.length a) ∧
  w.cell? ⟨g,k*4+3,none⟩=some (.slice c cs[k].body.length b)/\P7 lo w (.slice e cs[k].head.args.length a) cs[k].head.args/\PX lo w (.slice c cs[k].body.length b) cs[k].body:=by
 obtain⟨x,u,p⟩:=h;obtain⟨g,i,f,_,s,d⟩:=yC u (by omega);simp at f;obtain⟨y,z,v,q,o,t,l,m⟩:=p.at k cs[k] (by simp[r]);obtain⟨e,a,rfl⟩:=l.qx;obtain⟨c,b,rfl⟩:=m.qx;exact⟨g,e,a,c,b,f.1,s,d _ _ v,d _ _ q,d _ _ o,d _ _ t,l,m⟩
def vH(c:zc):Prop:=c.head.args.length+xf c.body<=1000/\c.body.length<=1000
theorem rx(w:World)(v:Value)(cs:List zc)(m:Qa lo 171 w v cs)(B:∀c∈cs,vH c)(T:cs.length<=1000):
  Calls prog 61 #[v] w fun e I=>e=.returned (.bool (cs.any yE))/\Below w.heap.size w I:=by
 obtain⟨R,P,rfl⟩:=m.qx;have u:=Px B;go_enter func61,ntmps61;go_wp2;go_loopw [7] (fun i wr=>∃k:Nat,k<=cs.length/\i=.int .i64 k/\Below w.heap.size w wr/\Hid (cs.any yE=(cs.drop k).any yE)) (fun i _=>cs.length-(intOf i).toNat)
 case atStart=>exact⟨0,zx _,rfl,zo _ _,rfl⟩
 case round=>
  obtain⟨k,S,rfl,b,H⟩:=hrel;have C:=b.size;by_cases j:k<cs.length
  ·have t:=tW cs yE k j;obtain⟨g,N,F,L,G,rfl,q,x,A,z,s,y,r⟩:=m.cell k j;have J:=zm b q x;have M:=zm b q A;have O:=zm b q z;have K:=zm b q s;have d:=y.below b;have f:=r.below b;obtain⟨p,n⟩:=u.out _ (zv j);generalize cs[k]=a at *;have E:Hid (cs.any yE=(yE a||(cs.drop (k+1)).any yE)):=by rw[Hid,H.out,t]
   cases D:yE a with
   |true=>
    have o:Hid (cs.any yE=true):=by rw[Hid,E.out,D];rfl
    go_wp2_with (first|(go_at_call 101;refine(Bz _ a _ _ (by exact d.below (by go_grown)) (by exact f.below (by go_grown)) p n).mono ?_;rintro e Q ⟨rfl,h⟩;have l:=P3 ((zo wr.heap.size wr).alloc (zf _) _) h))
    go_ret;exact⟨by rw[o.out];rfl,P3 b l⟩
   |false=>
    have o:Hid (cs.any yE=(cs.drop (k+1)).any yE):=by rw[Hid,E.out,D];rfl
    go_wp2_with (first|(go_at_call 101;refine(Bz _ a _ _ (by exact d.below (by go_grown)) (by exact f.below (by go_grown)) p n).mono ?_;rintro e Q ⟨rfl,h⟩;have l:=P3 ((zo wr.heap.size wr).alloc (zf _) _) h))
    go_roundw
    case rel=>exact⟨k+1,by omega,by go_num,P3 b l,o⟩
    case measure=>simp[intOf];omega
  ·have o:Hid (cs.any yE=false):=by rw[Hid,H.out,ug (by omega)];rfl
   go_wp2;go_ret;exact⟨by rw[o.out];rfl,b⟩
theorem iZ(w:World)(v:Value)(cs:List zc)(m:Qa lo 171 w v cs)(B:∀c∈cs,vH c)(T:cs.length<=1000):
  Calls prog 63 #[v] w fun e I=>e=.returned (.bool (cs.all xo))/\Below w.heap.size w I:=by
 obtain⟨R,P,rfl⟩:=m.qx;have u:=Px B;go_enter func63,ntmps63;go_wp2;go_loopw [7] (fun i wr=>∃k:Nat,k<=cs.length/\i=.int .i64 k/\Below w.heap.size w wr/\Hid (cs.all xo=(cs.drop k).all xo)) (fun i _=>cs.length-(intOf i).toNat)
 case atStart=>exact⟨0,zx _,rfl,zo _ _,rfl⟩
 case round=>
  obtain⟨k,S,rfl,b,H⟩:=hrel;have C:=b.size;by_cases j:k<cs.length
  ·have t:=eZ cs xo k j;obtain⟨g,N,F,L,G,rfl,q,x,A,z,s,y,r⟩:=m.cell k j;have J:=zm b q x;have M:=zm b q A;have O:=zm b q z;have K:=zm b q s;have d:=y.below b;have f:=r.below b;obtain⟨p,n⟩:=u.out _ (zv j);generalize cs[k]=a at *;have E:Hid (cs.all xo=(xo a&&(cs.drop (k+1)).all xo)):=by rw[Hid,H.out,t]
   cases D:xo a with
   |false=>
    have o:Hid (cs.all xo=false):=by rw[Hid,E.out,D];rfl
    go_wp2_with (first|(go_at_call 103;refine(Bi _ a _ _ (by exact d.below (by go_grown)) (by exact f.below (by go_grown)) p n).mono ?_;rintro e Q ⟨rfl,h⟩;have l:=P3 ((zo wr.heap.size wr).alloc (zf _) _) h))
    go_ret;exact⟨by rw[o.out];rfl,P3 b l⟩
   |true=>
    have o:Hid (cs.all xo=(cs.drop (k+1)).all xo):=by rw[Hid,E.out,D];rfl
    go_wp2_with (first|(go_at_call 103;refine(Bi _ a _ _ (by exact d.below (by go_grown)) (by exact f.below (by go_grown)) p n).mono ?_;rintro e Q ⟨rfl,h⟩;have l:=P3 ((zo wr.heap.size wr).alloc (zf _) _) h))
    go_roundw
    case rel=>exact⟨k+1,by omega,by go_num,P3 b l,o⟩
    case measure=>simp[intOf];omega
  ·have o:Hid (cs.all xo=true):=by rw[Hid,H.out,ug (by omega)];rfl
   go_wp2;go_ret;exact⟨by rw[o.out];rfl,b⟩
end
section
open Go.Proofs.Tryz
structure zh where
 name:ByteArray
 jh:Nat
 qh:Nat
def PS(a b:ByteArray):Bool:=Op.bytesLess a.toList b.toList
def zV:List zh->ByteArray->Nat
 |[],_=>0
 |e::r,n=>if PS e.name n then zV r n+1 else 0
theorem et:∀(t:List zh) (n:ByteArray),zV t n<=t.length
 |[],_=>zf _
 |e::r,n=>by have:=et r n;unfold zV;split<;>simp<;>omega
theorem eO:∀(t:List zh) (n:ByteArray) (k:Nat),(∀j (c:j<t.length),j<k->PS t[j].name n=true)->k<=t.length->zV t n=k+zV (t.drop k) n
 |[],n,k,_,a=>by simp at a;subst a;simp
 |e::r,n,0,_,_=>by simp
 |e::r,n,k+1,h,a=>by
  have b:=h 0 (by simp) (by omega);simp at b;have:=eO r n k (fun j c d=>by have:=h (j+1) (by simpa using c) (by omega);simpa using this) (by simpa using a);simp[zV,b];omega
theorem CN(t:List zh)(n:ByteArray)(k:Nat)(h:∀j (c:j<t.length),j<k->PS t[j].name n=true)(b:k<t.length)(a:PS t[k].name n=false):zV t n=k:=by
 rw[eO t n k h (by omega),xk b,zV,a];rfl
theorem Ch(t:List zh)(n:ByteArray)(h:∀j (a:j<t.length),PS t[j].name n=true):zV t n=t.length:=by
 rw[eO t n t.length (fun j a _=>h j a) (zf _)];simp[zV]
def xW(t:List zh):List Value:=t.flatMap fun e=>[.string e.name,.int .i64 (e.jh:Int),.int .i64 (e.qh:Int)]
theorem i3(t:List zh):(xW t).length=t.length*3:=by
 induction t with
 |nil=>rfl
 |cons a t b=>simp[xW] at b ⊢;omega
theorem BQ:∀(t:List zh) (k:Nat) (a:k<t.length),(xW t)[k*3]?=some (.string t[k].name)/\(xW t)[k*3+1]?=some (.int .i64 (t[k].jh:Int))/\(xW t)[k*3+2]?=some (.int .i64 (t[k].qh:Int))
 |[],k,a=>by simp at a
 |e::r,0,_=>by simp[xW]
 |e::r,k+1,a=>by
  have:=BQ r k (by simpa using a);simp only[xW,uo] at this ⊢;rw[show(k+1)*3=k*3+1+1+1 from by omega,show k*3+1+1+1+1=k*3+1+1+1+1 from rfl,show k*3+1+1+1+2=k*3+2+1+1+1 from by omega];simpa using this
def TA(B:Nat)(w:World)(tb:Nat)(t:List zh):Prop:=∃a,Py w tb #[a] 127/\w.ownsRow B 221 3 a t.length (xW t)
theorem TA.below{B:Nat}{w b:World}{tb:Nat}{t:List zh}(h:TA B w tb t)(a:Below w.heap.size w b):TA B b tb t:=by
 obtain⟨d,e,c⟩:=h;exact⟨d,e.below a,zC c a⟩
theorem TA.view{B:Nat}{w:World}{tb:Nat}{t:List zh}(h:TA B w tb t):∃b a,Py w tb #[.slice b t.length a] 127/\w.ownsRow B 221 3 (.slice b t.length a) t.length (xW t):=by
 obtain⟨e,d,c⟩:=h;obtain⟨b,a,rfl⟩:=zs c;exact⟨b,a,d,c⟩
theorem ko{B:Nat}{w:World}{d:Option Addr}{n cap:Nat}{t:List zh}(h:w.ownsRow B 221 3 (.slice d n cap) t.length (xW t))(k:Nat)(m:k<t.length):∃g,d=some ⟨g,0,none⟩/\g<w.heap.size/\B<=g ∧
  w.cell? ⟨g,k*3,none⟩=some (.string t[k].name)/\w.cell? ⟨g,k*3+1,none⟩=some (.int .i64 (t[k].jh:Int))/\w.cell? ⟨g,k*3+2,none⟩=some (.int .i64 (t[k].qh:Int)):=by
 obtain⟨g,c,b,f,e,a⟩:=yC h (by omega);simp at b;obtain⟨i,j,l⟩:=BQ t k m;exact⟨g,b.1,e,f,a _ _ i,a _ _ j,a _ _ l⟩
theorem tS(B:Nat)(w:World)(tb:Nat)(t:List zh)(n:ByteArray)(h:TA B w tb t)(x:t.length<=1000):
  Calls prog 126 #[.pointer (some ⟨tb,0,none⟩),.string n] w fun e q=>e=.returned (.int .i64 (zV t n))/\q=w:=by
 obtain⟨y,p,l,d⟩:=h.view;obtain⟨s,u⟩:=l.rules;go_enter func126,ntmps126;go_wp2;go_loop [5] (fun i=>∃k:Nat,k<=t.length/\i=.int .i64 k/\Hid (∀j (a:j<t.length),j<k->PS t[j].name n=true)) (fun i=>t.length-(intOf i).toNat)
 case atStart=>exact⟨0,zx _,rfl,fun j a h=>by omega⟩
 case round=>
  obtain⟨k,r,rfl,H⟩:=hrel;by_cases b:k<t.length
  ·obtain⟨g,rfl,v,_,o,_,_⟩:=ko d k b;cases f:PS t[k].name n with
   |true=>
    have c:Hid (∀j (a:j<t.length),j<k+1->PS t[j].name n=true):=fun j a h=>by
     rcases gD j k with m|m
     ·exact H.out j a m
     ·obtain rfl:j=k:=by omega
      exact f
    unfold PS at f;go_wp2;go_round
    case rel=>exact⟨k+1,by omega,by go_num,c⟩
    case measure=>simp[intOf];omega
   |false=>
    have c:=Px (CN t n k H.out b f);unfold PS at f;go_wp2;go_ret;exact⟨by rw[c.out];rfl,rfl⟩
  ·have c:Hid (zV t n=k):=by
    have:=Ch t n (fun j a=>H.out j a (by omega));unfold Hid;omega
   go_wp2;go_ret;exact⟨by rw[c.out];rfl,rfl⟩
end
section
open Go.Proofs.Tryz
variable {xs:List Value}
theorem qF{w:World}{b:Nat}{e:TypeId}{a g n cap m:Nat}(h:w.ownsRow b e a (.slice (some ⟨g,0,none⟩) n cap) m xs)(o:Nat):w.frozen? ⟨g,o,none⟩=false:=by
 obtain⟨_,⟨c,_⟩|⟨j,d,f,c,_,i,_⟩⟩:=h
 ·cases c
 ·simp at c;obtain⟨rfl,_⟩:=c;unfold World.frozen?;rw[i];simp
theorem uI{w:World}{b:Nat}{e:TypeId}{a g n cap m:Nat}(h:w.ownsRow b e a (.slice (some ⟨g,0,none⟩) n cap) m xs)(j:Nat)(_:j<xs.length)(u:Value):
  (w.setCell ⟨g,j,none⟩ u).ownsRow b e a (.slice (some ⟨g,0,none⟩) n cap) m (xs.set j u):=by
 obtain⟨q,⟨c,_⟩|⟨s,f,d,c,l,o,p,i,r,k⟩⟩:=h
 ·cases c
 ·simp at c;obtain⟨rfl,rfl,rfl⟩:=c;refine⟨by simpa using q,ze ⟨g,cap,d.setIfInBounds j u,rfl,l,?_,p,i,by simpa using r,?_⟩⟩
  ·simp[World.setCell,Array.getElem?_modify,o]
  ·rw[←k];rw[Array.toList_setIfInBounds,List.take_set]
def yn(t:List zh)(n:ByteArray):Option zh:=match t[zV t n]? with
 |none=>none
 |some e=>if e.name=n then some e else none
theorem jJ{t:List zh}{n:ByteArray}{e:zh}(h:yn t n=some e):∃b:zV t n<t.length,t[zV t n]=e/\e.name=n:=by
 unfold yn at h;split at h
 ·cases h
 ·rename_i c a;split at h<;>simp at h
  subst h;obtain⟨b,a⟩:=jA.1 a;exact⟨b,a,by assumption⟩
theorem rJ{t:List zh}{n:ByteArray}(h:yn t n=none):¬zV t n<t.length∨∃b:zV t n<t.length,t[zV t n].name≠n:=by
 unfold yn at h;split at h
 ·rename_i a;left;rw[List.getElem?_eq_none_iff] at a;omega
 ·rename_i e a;split at h<;>simp at h
  obtain⟨b,a⟩:=jA.1 a;right;exact⟨b,by rw[a];assumption⟩
theorem BZ(B:Nat)(w:World)(tb:Nat)(t:List zh)(n:ByteArray)(h:TA B w tb t)(o:t.length<=1000)(j:yn t n=none):
  Calls prog 77 #[.pointer (some ⟨tb,0,none⟩),.string n] w fun e f=>e=.returned (.tuple #[.int .i64 0,.bool false])/\f=w:=by
 have c:=tS B w tb t n h o;obtain⟨r,m,d,b⟩:=h.view;obtain⟨u,p⟩:=d.rules;have a:=Px c;rcases rJ j with k|⟨k,i⟩
 ·clear j;go_enter func77,ntmps77;go_wp2_with (first|(go_at_call 126;refine a.out.mono ?_;rintro e f ⟨rfl,rfl⟩;clear a))
  go_ret2
  exact⟨rfl,rfl⟩
 ·obtain⟨g,rfl,q,_,l,_,_⟩:=ko b _ k;have s:=jp i;go_enter func77,ntmps77;go_wp2_with (first|(go_at_call 126;refine a.out.mono ?_;rintro e f ⟨rfl,rfl⟩;clear a))
  go_ret2
  exact⟨rfl,rfl⟩
theorem Dj(B:Nat)(w:World)(tb:Nat)(t:List zh)(n:ByteArray)(r:zh)(h:TA B w tb t)(q:t.length<=1000)(m:yn t n=some r):
  Calls prog 77 #[.pointer (some ⟨tb,0,none⟩),.string n] w fun e k=>e=.returned (.tuple #[.int .i64 (zV t n),.bool true])/\k=w:=by
 have j:=tS B w tb t n h q;obtain⟨x,p,i,a⟩:=h.view;obtain⟨v,s⟩:=i.rules;have b:=Px j;obtain⟨l,f,o⟩:=jJ m;obtain⟨g,rfl,u,_,c,_,d⟩:=ko a _ l;rw[f] at c d;go_enter func77,ntmps77;go_wp2_with (first|(go_at_call 126;refine b.out.mono ?_;rintro e k ⟨rfl,rfl⟩;clear b))
 go_ret2
 exact⟨rfl,rfl⟩
theorem Fl(B:Nat)(w:World)(tb:Nat)(t:List zh)(n:ByteArray)(h:TA B w tb t)(c:t.length<=1000)(a:yn t n=none):
  Calls prog 159 #[.pointer (some ⟨tb,0,none⟩),.string n] w fun e d=>e=.returned (.tuple #[.int .i64 0,.bool false])/\d=w:=by
 have b:=Px (BZ B w tb t n h c a);clear h a c;go_enter func159,ntmps159;go_wp2_with (first|(go_at_call 77;refine b.out.mono ?_;rintro e d ⟨rfl,rfl⟩;clear b))
 go_ret2
 exact⟨rfl,rfl⟩
theorem AD(B:Nat)(w:World)(tb:Nat)(t:List zh)(n:ByteArray)(c:zh)(h:TA B w tb t)(p:t.length<=1000)(f:yn t n=some c):
  Calls prog 159 #[.pointer (some ⟨tb,0,none⟩),.string n] w fun e i=>e=.returned (.tuple #[.int .i64 c.qh,.bool true])/\i=w:=by
 have d:=Px (Dj B w tb t n c h p f);obtain⟨v,o,b,a⟩:=h.view;obtain⟨u,r⟩:=b.rules;obtain⟨j,l,m⟩:=jJ f;obtain⟨g,rfl,s,_,k,_,q⟩:=ko a _ j;go_enter func159,ntmps159;go_wp2_with (first|(go_at_call 77;refine d.out.mono ?_;rintro e i ⟨rfl,rfl⟩;clear d))
 go_ret2
 exact⟨rfl,rfl⟩
theorem Eg:∀(t:List zh) (k:Nat) (e:zh) (c:k<t.length),t[k].name=e.name->t[k].jh=e.jh->(xW t).set (k*3+2) (.int .i64 (e.qh:Int))=xW (t.set k e)
 |[],k,_,c,_,_=>by simp at c
 |a::r,0,e,_,d,b=>by simp at d b;simp[xW,d,b]
 |a::r,k+1,e,c,d,b=>by
  have:=Eg r k e (by simpa using c) (by simpa using d) (by simpa using b);simp only[xW,uo,mO] at this ⊢;rw[show(k+1)*3+2=k*3+2+1+1+1 from by omega];simpa using this
def xz(t:List zh)(n:ByteArray)(s:Nat):List zh×Bool:=match yn t n with
 |none=>(t,false)
 |some e=>if s<=e.qh then(t,false) else(t.set (zV t n) {e with qh:=s},true)
theorem IJ(t:List zh)(n:ByteArray)(s:Nat):(xz t n s).1.length=t.length:=by
 unfold xz;split
 ·rfl
 ·split<;>simp
theorem Q4(B:Nat)(w:World)(tb:Nat)(t:List zh)(n:ByteArray)(s:Nat)(h:TA B w tb t)(A:t.length<=1000)(_:s<=3000000):
  Calls prog 151 #[.pointer (some ⟨tb,0,none⟩),.string n,.int .i64 s] w fun e j=>e=.returned (.bool (xz t n s).2)/\TA B j tb (xz t n s).1/\Below B w j:=by
 obtain⟨J,I,b,a⟩:=h.view;obtain⟨K,M⟩:=b.rules;have y:=Px h;cases f:yn t n with
 |none=>
  have m:Hid (xz t n s=(t,false)):=by unfold Hid xz;rw[f]
  have d:=Px (BZ B w tb t n h A f);rw[m.out];go_enter func151,ntmps151;go_wp2_with (first|(go_at_call 77;refine d.out.mono ?_;rintro e j ⟨rfl,rfl⟩;clear d))
  go_ret;exact⟨rfl,y,zo _ _⟩
 |some l=>
  have d:=Px (Dj B w tb t n l h A f);obtain⟨z,k,G⟩:=jJ f;obtain⟨g,rfl,N,r,F,_,H⟩:=ko a _ z;have E:=qF a;by_cases p:s<=l.qh
  ·have m:Hid (xz t n s=(t,false)):=by unfold Hid xz;rw[f];simp[p]
   rw[m.out];go_enter func151,ntmps151;go_wp2_with (first|(go_at_call 77;refine d.out.mono ?_;rintro e j ⟨rfl,rfl⟩;clear d))
   go_ret;exact⟨rfl,y,zo _ _⟩
  ·have m:Hid (xz t n s=(t.set (zV t n) {l with qh:=s},true)):=by unfold Hid xz;rw[f];simp[p]
   rw[m.out];have c:=uI a (zV t n*3+2) (by rw[i3];omega) (.int .i64 (s:Int));rw[Eg t (zV t n) {l with qh:=s} z (by rw[k]) (by rw[k])] at c;have o:tb≠g:=by
    intro v;subst v;obtain⟨_,⟨q,_⟩|⟨L,x,C,q,_,D,_⟩⟩:=a
    ·cases q
    ·simp at q;obtain⟨rfl,_⟩:=q;unfold Py at b;rw[D] at b;simp at b
   have i:=b.set_ne o (zV t n*3+2) (.int .i64 (s:Int));have u:Hid (TA B (w.setCell ⟨g,zV t n*3+2,none⟩ (.int .i64 (s:Int))) tb (t.set (zV t n) {l with qh:=s})):=⟨_,i,by simpa using c⟩;go_enter func151,ntmps151;go_wp2_with (first|(go_at_call 77;refine d.out.mono ?_;rintro e j ⟨rfl,rfl⟩;clear d))
   go_ret;exact⟨rfl,u,(zo _ _).setCell r _⟩
end
section
open Go.Proofs.Tryz
variable {lo:Nat}
def j9(t:List zh)(l:zj):Nat:=match yn t l.pred with
 |none=>0
 |some e=>if l.neg then e.qh+1 else e.qh
def qb(t:List zh)(n:Nat)(l:zj):Nat:=if n<j9 t l then j9 t l else n
def qA(t:List zh)(c:zc):Nat:=c.body.foldl (qb t) 0
theorem DZ{t:List zh}{M:Nat}(h:∀e∈t,e.qh<=M)(l:zj):j9 t l<=M+1:=by
 unfold j9;split
 ·omega
 ·rename_i e b;obtain⟨c,a,_⟩:=jJ b;have:=h e (by rw[←a];exact zv c);split<;>omega
theorem E3{t:List zh}{M:Nat}(h:∀e∈t,e.qh<=M):∀(a:List zj) (n:Nat),n<=M+1->a.foldl (qb t) n<=M+1
 |[],n,b=>b
 |l::a,n,b=>by
  refine E3 h a _ ?_;unfold qb;have:=DZ h l;split<;>omega
theorem oA(B M:Nat)(w:World)(tb:Nat)(t:List zh)(c:zc)(J Q:Value)(h:TA B w tb t)(G:t.length<=1000)(O:∀e∈t,e.qh<=M)(Y:M<=2000000)(hs:P7 lo w J c.head.args)(L:PX lo w Q c.body)(Z:c.body.length<=1000):
  Calls prog 150 #[.pointer (some ⟨tb,0,none⟩),.agg #[.bool c.head.neg,.string c.head.pred,J,Q]] w fun e R=>e=.returned (.int .i64 (qA t c))/\Below w.heap.size w R:=by
 obtain⟨ao,aa,rfl⟩:=hs.qx;obtain⟨T,N,rfl⟩:=L.qx;have V:=Px O;clear O;go_enter func150,ntmps150;go_wp2;go_loopw [5,13] (fun n i wr=>∃k m:Nat,k<=c.body.length/\i=.int .i64 k/\n=.int .i64 m/\m<=M+1/\Below w.heap.size w wr/\Hid (m=(c.body.take k).foldl (qb t) 0)) (fun _ i _=>c.body.length-(intOf i).toNat)
 case atStart=>exact⟨0,0,zx _,rfl,rfl,zx _,(by go_grown),rfl⟩
 case round=>
  obtain⟨k,m,hk,rfl,rfl,C,d,H⟩:=hrel;have I:=d.size;by_cases x:k<c.body.length
  ·obtain⟨g,W,P,rfl,F,v,z,y,D⟩:=L.cell k x;have u:=zm d F v;have U:=zm d F z;have X:=zm d F y;have S:g<wr.heap.size:=by omega
   have s:Hid ((c.body.take (k+1)).foldl (qb t) 0=qb t m c.body[k]):=by rw[Hid,H.out,yP x,js];rfl
   have o:=h.below d;clear v z y D H;generalize c.body[k]=a at *;have q:=DZ V.out a;cases l:yn t a.pred with
   |none=>
    have j:Hid (j9 t a=0):=by unfold Hid j9;rw[l]
    have E:Hid ((c.body.take (k+1)).foldl (qb t) 0=m):=by rw[Hid,s.out,qb,j.out];simp
    have A:=Px l;clear s j l q;go_wp2_with (first|(go_at_call 159;refine(Fl B _ tb t a.pred (by exact o.below (by go_grown)) G A).mono ?_;rintro e K ⟨rfl,rfl⟩))
    go_roundw
    case rel=>exact⟨k+1,m,by omega,by go_num,rfl,C,(by go_grown),E.out.symm⟩
    case measure=>simp[intOf];omega
   |some f=>
    have A:=Px l;cases r:a.neg with
    |true=>
     have p:j9 t a=f.qh+1:=by unfold j9;rw[l,r];rfl
     have j:Hid (qb t m a=if m<f.qh+1 then f.qh+1 else m):=by unfold Hid qb;rw[p]
     rw[r] at u;rw[p] at q;clear p l r;by_cases b:m<f.qh+1
     all_goals
      go_wp2_with (first|(go_at_call 159;refine(AD B _ tb t a.pred f (by exact o.below (by go_grown)) G A).mono ?_;rintro e K ⟨rfl,rfl⟩))
      go_roundw
      case rel=>first|exact⟨k+1,f.qh+1,by omega,by go_num,by go_num,by omega,(by go_grown),by rw[Hid,s.out,j.out,zb b]⟩|exact⟨k+1,m,by omega,by go_num,rfl,C,(by go_grown),by rw[Hid,s.out,j.out,za b]⟩
      case measure=>simp[intOf];omega
    |false=>
     have p:j9 t a=f.qh:=by unfold j9;rw[l,r];rfl
     have j:Hid (qb t m a=if m<f.qh then f.qh else m):=by unfold Hid qb;rw[p]
     rw[r] at u;rw[p] at q;clear p l r;by_cases b:m<f.qh
     all_goals
      go_wp2_with (first|(go_at_call 159;refine(AD B _ tb t a.pred f (by exact o.below (by go_grown)) G A).mono ?_;rintro e K ⟨rfl,rfl⟩))
      go_roundw
      case rel=>first|exact⟨k+1,f.qh,by omega,by go_num,by go_num,by omega,(by go_grown),by rw[Hid,s.out,j.out,zb b]⟩|exact⟨k+1,m,by omega,by go_num,rfl,C,(by go_grown),by rw[Hid,s.out,j.out,za b]⟩
      case measure=>simp[intOf];omega
  ·have E:Hid (m=qA t c):=by rw[Hid,H.out,xi (by omega)];rfl
   clear H;go_wp2;go_ret;exact⟨by rw[←E.out];rfl,d⟩
def vD(x:List zh×Bool)(c:zc):List zh×Bool:=((xz x.1 c.head.pred (qA x.1 c)).1,x.2||(xz x.1 c.head.pred (qA x.1 c)).2)
def vw(t:List zh)(cs:List zc):List zh×Bool:=cs.foldl vD (t,false)
theorem MC{t:List zh}{n:ByteArray}{s M:Nat}(h:∀e∈t,e.qh<=M)(hs:s<=M):∀e∈(xz t n s).1,e.qh<=M:=by
 unfold xz;split
 ·exact h
 ·split
  ·exact h
  ·intro e a;rcases nY a with a|a
   ·exact h e a
   ·subst a;exact hs
theorem Nq{α β:Type}(f:β->α->β)(b:β)(l:List α)(k:Nat)(a:k<l.length):(l.take (k+1)).foldl f b=f ((l.take k).foldl f b) l[k]:=by rw[yP a,js];rfl
theorem Lg(B M:Nat)(w:World)(tb:Nat)(t:List zh)(v:Value)(cs:List zc)(E:World)(W:E.heap.size=B)(G:Below B E w)(I:Qa lo 171 E v cs)(O:∀c∈cs,vH c)(_:cs.length<=1000)
  (h:TA B w tb t) (hl:t.length<=1000) (hM:∀e∈t,e.qh<=M) (am:M+cs.length<=1900000):
  Calls prog 104 #[.pointer (some ⟨tb,0,none⟩),v] w fun e w'=>e=.returned (.bool (vw t cs).2)/\TA B w' tb (vw t cs).1/\Below B w w'/\(vw t cs).1.length=t.length/\(∀e∈(vw t cs).1,e.qh<=M+cs.length):=by
 obtain⟨ao,ap,rfl⟩:=I.qx;have T:Hid (∀c∈cs,vH c):=O;have aa:=G.size;clear O;go_enter func104,ntmps104;go_wp2;go_loopw [5,11] (fun r i wr=>∃k:Nat,k<=cs.length/\i=.int .i64 k/\r=.bool ((cs.take k).foldl vD (t,false)).2/\Below B w wr/\TA B wr tb ((cs.take k).foldl vD (t,false)).1/\((cs.take k).foldl vD (t,false)).1.length=t.length/\Hid (∀e∈((cs.take k).foldl vD (t,false)).1,e.qh<=M+k)) (fun _ i _=>cs.length-(intOf i).toNat)
 case atStart=>exact⟨0,zx _,rfl,rfl,zo _ _,h,rfl,hM⟩
 case round=>
  obtain⟨k,hk,rfl,rfl,b,d,y,s⟩:=hrel;have j:Below E.heap.size E wr:=by rw[W];exact G.trans b
  have Y:=b.size;by_cases A:k<cs.length
  ·have P:=Nq vD (t,false) cs k A;obtain⟨g,ak,ab,ah,ac,rfl,hg,H,N,L,F,J,o⟩:=I.cell k A;have ae:=(j.cell (p:=⟨g,k*4,none⟩) (by omega)).trans H;have aj:=(j.cell (p:=⟨g,k*4+1,none⟩) (by omega)).trans N;have al:=(j.cell (p:=⟨g,k*4+2,none⟩) (by omega)).trans L;have af:=(j.cell (p:=⟨g,k*4+3,none⟩) (by omega)).trans F;have ag:g<wr.heap.size:=by omega
   have q:=J.below j;have u:=o.below j;obtain⟨an,K⟩:=T.out _ (zv A);clear H N L F J o;generalize cs[k]=a at *;generalize (cs.take k).foldl vD (t,false)=x at *;obtain⟨tk,Z⟩:=x;simp only at d y s ⊢;have Q:Hid ((cs.take (k+1)).foldl vD (t,false)=vD (tk,Z) a):=P;clear P;have ad:qA tk a<=M+k+1:=E3 s.out a.body 0 (by omega);have ai:=IJ tk a.head.pred (qA tk a);have HB:Hid (∀e∈(xz tk a.head.pred (qA tk a)).1,e.qh<=M+(k+1)):=MC (fun e he=>by have:=s.out e he;omega) (by omega);cases hR:(xz tk a.head.pred (qA tk a)).2 with
   |true=>
    have n:Hid (((cs.take (k+1)).foldl vD (t,false))=((xz tk a.head.pred (qA tk a)).1,true)):=by rw[Hid,Q.out,vD];simp[hR]
    clear Q;go_wp2_with (first|(go_at_call 150;refine(oA B (M+k) _ tb tk a _ _ (by exact d.below (by go_grown)) (by omega) s.out (by omega) (by exact q.below (by go_grown)) (by exact u.below (by go_grown)) K).mono ?_;rintro e w1 ⟨rfl,m⟩;have f:=P3 ((zo wr.heap.size wr).alloc (zf _) _) m;have D:=d.below f;have U:=f.size;have l:=(Py.new wr _ _).below m;obtain⟨S,X⟩:=l.rules)|(go_at_call 151;refine(Q4 B _ tb tk a.head.pred (qA tk a) D (by omega) (by omega)).mono ?_;rintro e w2 ⟨rfl,C,z⟩))
    go_roundw
    case rel=>exact⟨k+1,by omega,by go_num,by rw[n.out],(b.trans (f.mono (by omega))).trans z,by rw[n.out];exact C,by rw[n.out];simp only;omega,by rw[n.out];exact HB⟩
    case measure=>simp[intOf];omega
   |false=>
    have n:Hid (((cs.take (k+1)).foldl vD (t,false))=((xz tk a.head.pred (qA tk a)).1,Z)):=by rw[Hid,Q.out,vD];simp[hR]
    clear Q;go_wp2_with (first|(go_at_call 150;refine(oA B (M+k) _ tb tk a _ _ (by exact d.below (by go_grown)) (by omega) s.out (by omega) (by exact q.below (by go_grown)) (by exact u.below (by go_grown)) K).mono ?_;rintro e w1 ⟨rfl,m⟩;have f:=P3 ((zo wr.heap.size wr).alloc (zf _) _) m;have D:=d.below f;have U:=f.size;have l:=(Py.new wr _ _).below m;obtain⟨S,X⟩:=l.rules)|(go_at_call 151;refine(Q4 B _ tb tk a.head.pred (qA tk a) D (by omega) (by omega)).mono ?_;rintro e w2 ⟨rfl,C,z⟩))
    go_roundw
    case rel=>exact⟨k+1,by omega,by go_num,by rw[n.out],(b.trans (f.mono (by omega))).trans z,by rw[n.out];exact C,by rw[n.out];simp only;omega,by rw[n.out];exact HB⟩
    case measure=>simp[intOf];omega
  ·have hE:cs.take k=cs:=xi (by omega);rw[hE] at d y s ⊢;have V:k=cs.length:=by omega
   have R:Hid (∀e∈(vw t cs).1,e.qh<=M+cs.length):=by rw[←V];exact s
   clear hE s;go_wp2;go_ret;exact⟨rfl,d,b,y,R⟩
def xF:Nat->List zh->List zc->List zh×Bool
 |0,t,_=>(t,false)
 |m+1,t,a=>if (vw t a).2 then xF m (vw t a).1 a else((vw t a).1,true)
theorem CX(B:Nat)(w:World)(tb:Nat)(t:List zh)(v:Value)(cs:List zc)(m:World)(u:m.heap.size=B)(G:Below B m w)(I:Qa lo 171 m v cs)(x:∀c∈cs,vH c)(r:cs.length<=1000)
  (h:TA B w tb t) (V:t.length<=1000) (O:∀e∈t,e.qh<=0):
  Calls prog 64 #[.pointer (some ⟨tb,0,none⟩),v] w fun e o=>e=.returned (.bool (xF (t.length+1) t cs).2)/\TA B o tb (xF (t.length+1) t cs).1/\Below B w o:=by
 have E:Hid (∀c∈cs,vH c):=x;have P:Hid (m.heap.size=B):=u;clear x u;go_enter func64,ntmps64;go_wp2;go_loopw [5] (fun i wr=>∃(p:Nat) (tk:List zh),p<=t.length+1/\i=.int .i64 p/\Below B w wr/\TA B wr tb tk/\tk.length=t.length/\Hid (∀e∈tk,e.qh<=p*cs.length)/\Hid (xF (t.length+1) t cs=xF (t.length+1-p) tk cs)) (fun i _=>t.length+1-(intOf i).toNat)
 case atStart=>exact⟨0,t,zx _,rfl,zo _ _,h,rfl,(by simpa [Hid] using O),rfl⟩
 case round=>
  obtain⟨p,tk,U,rfl,b,d,D,K,H⟩:=hrel;obtain⟨S,R,q,A⟩:=d.view;obtain⟨N,T⟩:=q.rules;rw[D] at N q A;by_cases Q:p<=t.length
  ·have n:p*cs.length<=1000*1000:=Nat.mul_le_mul (by omega) r;have z:=Lg B (p*cs.length) wr tb tk v cs m P.out (G.trans b) I E.out r d (by omega) K.out (by omega);have a:Hid (Calls prog 104 #[.pointer (some ⟨tb,0,none⟩),v] wr fun e o=>e=.returned (.bool (vw tk cs).2)/\TA B o tb (vw tk cs).1/\Below B wr o/\(vw tk cs).1.length=tk.length/\(∀e∈(vw tk cs).1,e.qh<=p*cs.length+cs.length)):=z;have y:t.length+1-p=(t.length-p)+1:=by omega
   have C:Hid (xF (t.length+1) t cs=if (vw tk cs).2 then xF (t.length-p) (vw tk cs).1 cs else((vw tk cs).1,true)):=by rw[Hid,H.out,y];rfl
   clear z y H;have s:p*cs.length+cs.length=(p+1)*cs.length:=by rw[fH];omega
   have J:Hid (p*cs.length+cs.length=(p+1)*cs.length):=s;clear s n K;cases l:(vw tk cs).2 with
   |true=>
    have k:Hid (xF (t.length+1) t cs=xF (t.length+1-(p+1)) (vw tk cs).1 cs):=by rw[Hid,C.out,l];simp
    clear C;rw[l] at a;clear l;generalize (vw tk cs).1=L at *;go_wp2_with (first|(go_at_call 104;refine a.out.mono ?_;rintro e M ⟨rfl,j,f,F,g⟩;clear a))
    go_roundw
    case rel=>exact⟨p+1,L,by omega,by go_num,b.trans f,j,by omega,by rw[J.out] at g;exact g,k⟩
    case measure=>simp[intOf];omega
   |false=>
    have k:Hid (xF (t.length+1) t cs=((vw tk cs).1,true)):=by rw[Hid,C.out,l];simp
    clear C;rw[l] at a;clear l;generalize (vw tk cs).1=L at *;go_wp2_with (first|(go_at_call 104;refine a.out.mono ?_;rintro e M ⟨rfl,j,f,F,g⟩;clear a))
    go_ret;exact⟨by rw[k.out];rfl,by rw[k.out];exact j,b.trans f⟩
  ·have k:Hid (xF (t.length+1) t cs=(tk,false)):=by rw[Hid,H.out,show t.length+1-p=0 by omega];rfl
   clear H;go_wp2;go_ret;exact⟨by rw[k.out];rfl,by rw[k.out];exact d,b⟩
end
section
open Go.Proofs.Tryz
variable {w w':World}{base n b g cap m tb:Nat}{v:Value}{xs:List Value}{c:Array Value}
theorem Py.newAt(w:World)(b:Nat)(c:Array Value)(T:TypeId)(h:b=w.heap.size):Py (w.alloc (.cells c T)) b c T:=by subst h;exact Py.new w c T
theorem Py.drew{w:World}{b:Nat}{c:Array Value}{T:TypeId}(h:Py w b c T):Py w.drew b c T:=h
theorem Jf{e:TypeId}{a:Nat}(h:w.ownsRow base e a v n xs)(p:w.heap.size<=b):some b≠v.ownBlock:=by
 intro i;obtain⟨_,⟨j,_⟩|⟨o,l,k,d,_,f,_⟩⟩:=h
 ·subst j;cases i
 ·subst d;simp only[Value.ownBlock,zr] at i;subst i;have:=(kw.1 f).1;omega
theorem fV{e T:TypeId}{d:Nat}(h:w.ownsRow base e d v n xs)(k:Py w b c T)(p:e≠T):some b≠v.ownBlock:=by
 intro i;obtain⟨_,⟨j,_⟩|⟨q,o,l,f,_,a,_⟩⟩:=h
 ·subst j;cases i
 ·subst f;simp only[Value.ownBlock,zr] at i;subst i;unfold Py at k;rw[k] at a;simp at a;exact p a.2.symm
theorem Py.keep{a f:World}{T:TypeId}(h:Py a b c T)(e:some b≠v.ownBlock)(i:∀k,k<a.heap.size->some k≠v.ownBlock->f.heap[k]?=a.heap[k]?):Py f b c T:=by
 have d:=h.lt;unfold Py at *;rw[i b d e];exact h
theorem Nr{e T:TypeId}{a:Nat}(h:w.ownsRow base e a (.slice (some ⟨g,0,none⟩) n cap) m xs)(j:Py w b c T)(p:c.size<m*a):b≠g:=by
 intro o;subst o;obtain⟨_,⟨i,_⟩|⟨s,l,k,f,_,d,q,t,r,_⟩⟩:=h
 ·cases i
 ·simp at f;obtain⟨rfl,rfl,rfl⟩:=f;unfold Py at j;rw[j] at d;simp at d;rw[←d.1] at r;have:=gN a q;omega
section
variable {P:Program} {ops:Array Oper} {o:Oper} {a:Act} {K:Act->World->Prop} {Q:Exit->Act->World->Prop}
theorem oy{E:Prop}(D C:World)(l:List Value)(te:TypeId)(R:o.guard=none)(s x:Operand)(t:TypeId)
  (ho:o.op=.call {callee:=.builtin .append,args:=#[s,x],argTypes:=#[t,t]})
  (base:Nat) (e:TypeId) (i:TypeInfo) (z:Value) (d f:Nat) (ht:P.underlying t=some (.slice e)) (Y:P.info? e=some i) (Z:i.zero=some z)
  (A:i.size=d) (L:i.bytes=f) (N:z.cells.size=d) (J:0<d)
  (v:Value) (n:Nat) (xs:List Value) (hs:a.eval s=v) (y:D.ownsRow base e d v n xs) (q:Below D.heap.size D C)
  (b c:Nat) (W:a.eval x=.slice (some ⟨b,0,none⟩) 1 c) (X:Py C b l.toArray te) (hl:l.length=d) (h1:∀u∈l,u.oneCell'=true)
  (hn:n<=1048576) (r:f<=1000) (H:base<=D.heap.size)
  (h:∀G w',w'.ownsRow base e d G (n+1) (xs++l)->Below base D w'->(∀k,k<C.heap.size->some k≠v.ownBlock->w'.heap[k]?=C.heap[k]?)->C.heap.size<=w'.heap.size->K (a.put o.dst G) w'):
  if Region.wanted o (yielded ops a.tmps)=true then Oper.wp P o a C K Q else E:=by
 have hw:Region.wanted o (yielded ops a.tmps)=true:=by simp[Region.wanted,R]
 rw[zb hw];have B:=zC y q;have O:∀k,v.ownBlock=some k->base<=k/\k<D.heap.size:=by
  intro k F;obtain⟨_,M⟩:=y;rcases M with⟨I,_⟩|⟨g,cap,T,I,R,V,_⟩
  ·subst I;cases F
  ·subst I;simp only[Value.ownBlock,zr] at F;subst F;exact⟨R,(kw.1 V).1⟩
 have S:=q.size;refine wp_append_own _ s x t ho base e i z d f ht Y Z A L N J v n xs hs B ⟨b,0,none⟩ 1 c l W (by omega) ?_ h1 ?_ ?_ ?_ ?_
 ·intro j u U;rw[Addr.add_lit,vF,X.rules.1];simpa using U
 ·unfold maxLen;omega
 ·have:(n+1)*f<=1048577*1000:=Nat.mul_le_mul (by omega) r;omega
 ·omega
 ·intro G w' M p _;refine h G w' M ⟨p.os.trans q.os,p.tape.trans q.tape,p.output.trans q.output,by have:=p.size;omega,fun k F=>?_⟩ p.block p.size;rw[p.block k (by omega) (fun e=>by have:=O k e.symm;omega)];exact q.block k (by omega)
end
def uO(t:List zh)(x:zh)(k:Nat):List zh:=t.take k++x::t.drop k
theorem dC(t:List zh)(x:zh)(k:Nat):(uO t x k).length=t.length+1:=by simp[uO];omega
theorem Gw(t:List zh)(x:zh):uO t x t.length=t++[x]:=by simp[uO]
theorem Mc(t:List zh)(x:zh)(j:Nat)(d:j<t.length):∃h:j<(uO t x (j+1)).length,(uO t x (j+1))[j]=t[j]:=by
 refine⟨by rw[dC];omega,?_⟩;unfold uO;rw[uQ (by simp;omega)];simp
theorem FQ(t:List zh)(x:zh)(j:Nat)(d:j<=t.length):∃h:j<(uO t x j).length,(uO t x j)[j]=x:=by
 refine⟨by rw[dC];omega,?_⟩;unfold uO;rw[mw (by simp;omega)];simp[d]
theorem Ol(t:List zh)(x:zh)(j:Nat)(e:j<t.length):((uO t x (j+1)).set (j+1) t[j]).set j x=uO t x j:=by
 unfold uO;have h:=yP e;have f:=xk e;have d:(t.take j).length=j:=by simp;omega
 rw[h,f,kB,fG _ _ (by omega),d,fG _ _ (by omega),d];simp
theorem Dt:∀(t:List zh) (k:Nat) (e:zh),k<t.length->(((xW t).set (k*3) (.string e.name)).set (k*3+1) (.int .i64 (e.jh:Int))).set (k*3+2) (.int .i64 (e.qh:Int))=xW (t.set k e)
 |[],k,_,d=>by simp at d
 |a::r,0,e,_=>by simp[xW]
 |a::r,k+1,e,d=>by
  have:=Dt r k e (by simpa using d);simp only[xW,uo,mO] at this ⊢;rw[show(k+1)*3=k*3+1+1+1 from by omega,show k*3+1+1+1+2=k*3+2+1+1+1 from by omega];simpa using this
theorem es{B:Nat}{t:List zh}(h:w.ownsRow B 221 3 (.slice (some ⟨g,0,none⟩) n cap) m (xW t))(k:Nat)(d:k<t.length)(e:zh):
  (((w.setCell ⟨g,k*3,none⟩ (.string e.name)).setCell ⟨g,k*3+1,none⟩ (.int .i64 (e.jh:Int))).setCell ⟨g,k*3+2,none⟩ (.int .i64 (e.qh:Int))).ownsRow B 221 3 (.slice (some ⟨g,0,none⟩) n cap) m (xW (t.set k e)):=by
 have f:=i3 t;rw[←Dt t k e d];exact uI (uI (uI h _ (by omega) _) _ (by simp;omega) _) _ (by simp;omega) _
structure vM (tb:Nat) (w w':World):Prop where
 size:w.heap.size<=w'.heap.size
 box:∀b c T,b≠tb->T≠221->Py w b c T->Py w' b c T
theorem vM.trans{a b c:World}(h:vM tb a b)(k:vM tb b c):vM tb a c:=⟨zT h.size k.size,fun x y z e d f=>k.box x y z e d (h.box x y z e d f)⟩
theorem vM.of(h:Below w.heap.size w w'):vM tb w w':=⟨h.size,fun _ _ _ _ _ k=>k.below h⟩
theorem vM.drew{tb:Nat}{w w':World}(h:vM tb w w'):vM tb w w'.drew:=⟨h.size,fun b c T f d e=>(h.box b c T f d e).drew⟩
theorem vM.setRow(h:vM tb w w'){B:Nat}(i:w'.ownsRow B 221 3 (.slice (some ⟨g,0,none⟩) n cap) m xs)(o:Nat)(u:Value):vM tb w (w'.setCell ⟨g,o,none⟩ u):=by
 refine⟨by simp[World.setCell];exact h.size,fun b c T f d j=>?_⟩;have e:=h.box b c T f d j;have:=fV i e (Ne.symm d);simp only[Value.ownBlock,ne_eq,zr] at this;exact e.set_ne this _ _
theorem Ax(h:vM tb w w'){B:Nat}{t:List zh}(d:w'.ownsRow B 221 3 (.slice (some ⟨g,0,none⟩) n cap) m (xW t))(k:Nat)(f:k<t.length)(u1 u2 u3:Value):
  vM tb w (((w'.setCell ⟨g,k*3,none⟩ u1).setCell ⟨g,k*3+1,none⟩ u2).setCell ⟨g,k*3+2,none⟩ u3):=by
 have e:=i3 t;exact((h.setRow d _ _).setRow (uI d _ (by omega) _) _ _).setRow (uI (uI d _ (by omega) _) _ (by simp;omega) _) _ _
theorem OM:(prog.info? 221).map (fun i=>(i.zero,i.size,i.bytes))=some (some (.agg #[.string ByteArray.empty,.int .i64 0,.int .i64 0]),3,32):=by kernel_rfl
theorem oE(B:Nat)(w:World)(tb:Nat)(t:List zh)(i:Nat)(x:zh)(h:TA B w tb t)(hl:t.length<=1000)(hi:i<=t.length)(hB:B<=w.heap.size)(Y:B<=tb):
  Calls prog 147 #[.pointer (some ⟨tb,0,none⟩),.int .i64 i,.agg #[.string x.name,.int .i64 x.jh,.int .i64 x.qh]] w fun e w'=>e=.returned (.tuple #[])/\TA B w' tb (t.take i++x::t.drop i)/\Below B w w'/\vM tb w w':=by
 obtain⟨i0,ad,R,Z,aa⟩:=info_parts OM;obtain⟨ao,cap,z,p⟩:=h.view;obtain⟨hc,hf,ak⟩:=z.boxed;have u:Below w.heap.size w (((w.alloc (.cells #[.string x.name,.int .i64 (x.jh:Int),.int .i64 (x.qh:Int)] 221)).alloc (.cells #[.string x.name,.int .i64 (x.jh:Int),.int .i64 (x.qh:Int)] 221)).drew):=(by go_grown);go_enter func147,ntmps147;go_wp2;go_region_law (first|(refine oy w _ [.string x.name,.int .i64 (x.jh:Int),.int .i64 (x.qh:Int)] 221 rfl (.tmp 11) (.tmp 13) 125 rfl B 221 i0 _ 3 32 underlying125 ad R Z aa rfl (by decide) _ _ _ (by simp[Act.eval]) p (by exact(by go_grown)) (w.heap.size+1) 1 (by simp[Act.eval]) (by exact Py.drew (Py.newAt _ _ _ _ (by simp))) rfl (by simp[Value.oneCell']) (by omega) (by omega) hB ?_;intro v' w2 E J A ag;obtain⟨C,r,rfl⟩:=zs E;have q:=(z.below u).keep (fV p z (by decide)) A;obtain⟨al,au⟩:=q.rules;have I:=Py.keep (Py.drew ((Py.new w _ _).below zQ)) (Jf p (zf _)) A))
 all_goals
  go_wp2;go_loopw [6] (fun k wr=>∃j:Nat,i<=j/\j<=t.length/\k=.int .i64 j/\Py wr tb #[.slice C (t.length+1) r] 127/\wr.ownsRow B 221 3 (.slice C (t.length+1) r) (t.length+1) (xW (uO t x j))/\Py wr w.heap.size #[.string x.name,.int .i64 (x.jh:Int),.int .i64 (x.qh:Int)] 221/\Below B w wr/\vM tb w wr) (fun k _=>(intOf k).toNat)
  case atStart=>
   refine⟨t.length,hi,zf _,rfl,q.set 0 _,?_,I.set_ne (by omega) _ _,?_,?_⟩
   ·rw[Gw];have:=xK E ((PB.refl tb w2).setCell 0 (.slice C (t.length+1) r)) q (by decide);simpa [xW] using this
   ·exact J.setCell Y _
   ·exact⟨by simp[World.setCell];exact J.size,fun b c T h1 h2 h3=>((h3.below u).keep (fV p h3 (Ne.symm h2)) A).set_ne h1 _ _⟩
  case round=>
   obtain⟨j,aq,ar,rfl,s,l,D,M,y⟩:=hrel;obtain⟨aj,an⟩:=s.rules;obtain⟨am,ah⟩:=D.rules;by_cases af:i<j
   ·obtain⟨j,rfl⟩:∃j',j=j'+1:=⟨j-1,by omega⟩;obtain⟨N,H⟩:=Mc t x j (by omega);obtain⟨g,rfl,hg,ap,U,W,ac⟩:=ko (t:=uO t x (j+1)) (by rw[dC];exact l) j N;rw[H] at U W ac;have ai:=qF l;have d:=fV l s (by decide);have f:=Nr l D (by simp;omega);simp only[Value.ownBlock,ne_eq,zr] at d;obtain⟨ab,F⟩:=FQ t x (j+1) (by omega);obtain⟨g',L,_,_,S,ae,V⟩:=ko (t:=uO t x (j+1)) (by rw[dC];exact l) (j+1) ab;simp at L;subst L;rw[F] at S ae V;clear H F;go_wp2;go_region
    go_wp2;go_region
    go_wp2;have G:=es (es l (j+1) (by rw[dC];omega) t[j]) j (by rw[l3,dC];omega) x;have X:=Ax (Ax y l (j+1) (by rw[dC];omega) (.string t[j].name) (.int .i64 (t[j].jh:Int)) (.int .i64 (t[j].qh:Int))) (es l (j+1) (by rw[dC];omega) t[j]) j (by rw[l3,dC];omega) (.string x.name) (.int .i64 (x.jh:Int)) (.int .i64 (x.qh:Int));rw[Ol t x j (by omega)] at G;go_roundw
    case rel=>exact⟨j,by omega,by omega,rfl,(((((((s.set_ne d _ _).set_ne d _ _).set_ne d _ _).set_ne d _ _).set_ne d _ _).set_ne d _ _).drew).drew,G.drew.drew,(((((((D.set_ne f _ _).set_ne f _ _).set_ne f _ _).set_ne f _ _).set_ne f _ _).set_ne f _ _).drew).drew,(by go_grown),X.drew.drew⟩
    case measure=>simp[intOf]
   ·have O:j=i:=by omega
    subst O;go_wp2;go_end0
    exact⟨rfl,⟨_,s,by rw[show(t.take j++x::t.drop j).length=t.length+1 from dC t x j];exact l⟩,M,y⟩
end
section
open Go.Proofs.Tryz
theorem Jd(a b:Nat):((a:Int) == (b:Int))=decide (a=b):=by
 by_cases h:a=b
 ·subst h;simp
 ·rw[decide_eq_false h,beq_eq_false_iff_ne];omega
theorem M1{a b:Bool}(h:a=b):Ending.returned (.bool a)=.returned (.bool b):=by rw[h]
def vh(t:List zh)(l:zj):Option (List zh):=match yn t l.pred with
 |some e=>if e.jh=l.args.length then some t else none
 |none=>some (uO t ⟨l.pred,l.args.length,0⟩ (zV t l.pred))
theorem EO(B:Nat)(w:World)(tb:Nat)(t:List zh)(l:zj)(b:Option Addr)(a:Nat)(h:TA B w tb t)(v:t.length<=1000)(o:zh)(s:yn t l.pred=some o):
  Calls prog 102 #[.pointer (some ⟨tb,0,none⟩),.agg #[.bool l.neg,.string l.pred,.slice b l.args.length a]] w fun e n=>e=.returned (.bool (decide (o.jh=l.args.length)))/\Below w.heap.size w n:=by
 obtain⟨x,u,c,f⟩:=h.view;have q:=c.lt;have m:=(zo w.heap.size w).alloc (zf _) (.cells #[.bool l.neg,.string l.pred,.slice b l.args.length a] 90);have d:=Px (tS B _ tb t l.pred (h.below m) v);obtain⟨y,z⟩:=c.rules;obtain⟨r,j,p⟩:=jJ s;obtain⟨g,rfl,A,_,i,k,_⟩:=ko f _ r;rw[j] at i k;go_enter func102,ntmps102;go_wp2_with (first|(go_at_call 126;refine d.out.mono ?_;rintro e n ⟨rfl,rfl⟩;clear d))
 go_quiet (fail)
 go_wp2;go_quiet (fail)
 go_wp2;go_ret;exact⟨M1 (Jd _ _),(by repeat'(first|with_reducible(first|apply zR|assumption|apply zN|apply zA|apply zD|apply zS)|go_size))⟩
theorem LJ(B:Nat)(w:World)(tb:Nat)(t:List zh)(l:zj)(m:Option Addr)(d:Nat)(h:TA B w tb t)(x:t.length<=1000)(A:yn t l.pred=none)(s:B<=w.heap.size)(p:B<=tb):
  Calls prog 102 #[.pointer (some ⟨tb,0,none⟩),.agg #[.bool l.neg,.string l.pred,.slice m l.args.length d]] w fun e n=>e=.returned (.bool true)/\TA B n tb (uO t ⟨l.pred,l.args.length,0⟩ (zV t l.pred))/\Below B w n/\vM tb w n:=by
 obtain⟨I,G,o,r⟩:=h.view;have F:=o.lt;have q:=et t l.pred;have b:=(zo w.heap.size w).alloc (zf _) (.cells #[.bool l.neg,.string l.pred,.slice m l.args.length d] 90);have c:=Px (tS B _ tb t l.pred (h.below b) x);obtain⟨J,K⟩:=o.rules;have v:=h;have j:=Px v;have y:Hid (uO t ⟨l.pred,l.args.length,0⟩ (zV t l.pred)=t.take (zV t l.pred)++⟨l.pred,l.args.length,0⟩::t.drop (zV t l.pred)):=rfl;rcases rJ A with z|⟨z,u⟩
 ·clear A;generalize zV t l.pred=k at *;go_enter func102,ntmps102;go_wp2_with (first|(go_at_call 126;refine c.out.mono ?_;rintro e n ⟨rfl,rfl⟩;clear c))
  go_quiet (fail)
  go_wp2_with (first|(go_at_call 147;refine(oE B _ tb t k ⟨l.pred,l.args.length,0⟩ (by exact j.out.below (by repeat'(first|with_reducible(first|apply zR|assumption|apply zN|apply zA|apply zD|apply zS)|go_size))) x q (by exact zT s (by simp)) p).mono ?_;rintro e E ⟨rfl,i,f,a⟩))
  go_ret;exact⟨rfl,i,((zL (b.mono s) _)).trans f,(vM.of (zL b _)).trans a⟩
 ·obtain⟨g,rfl,L,_,C,D,_⟩:=ko r _ z;have H:=jp u;generalize zV t l.pred=k at *;go_enter func102,ntmps102;go_wp2_with (first|(go_at_call 126;refine c.out.mono ?_;rintro e n ⟨rfl,rfl⟩;clear c))
  go_quiet (fail)
  go_wp2_with (first|(go_at_call 147;refine(oE B _ tb t k ⟨l.pred,l.args.length,0⟩ (by exact j.out.below (by repeat'(first|with_reducible(first|apply zR|assumption|apply zN|apply zA|apply zD|apply zS)|go_size))) x q (by exact zT s (by simp)) p).mono ?_;rintro e E ⟨rfl,i,f,a⟩))
  go_ret;exact⟨rfl,i,((zL (b.mono s) _)).trans f,(vM.of (zL b _)).trans a⟩
end
section
open Go.Proofs.Tryz
variable {lo:Nat}{t:List zh}{o:Option (List zh)}
theorem iY{a:List zh}{l:zj}(h:vh t l=some a):a.length<=t.length+1:=by
 unfold vh at h;split at h
 ·split at h<;>simp at h;subst h;omega
 ·simp at h;subst h;rw[dC];omega
theorem Ms{c:List zh}{l:zj}(h:vh t l=some c)(b:∀e∈t,e.qh<=0):∀e∈c,e.qh<=0:=by
 unfold vh at h;split at h
 ·split at h<;>simp at h;subst h;exact b
 ·simp at h;subst h;intro e a;unfold uO at a;rcases zX.1 a with a|a
  ·exact b e (fU a)
  ·rcases zu.1 a with a|a
   ·subst a;exact zf _
   ·exact b e (gZ a)
def ui(o:Option (List zh))(l:zj):Option (List zh):=o.bind (vh · l)
def zl(c:zc):List zj:=c.head::c.body
def ud(cs:List zc):Option (List zh):=(cs.flatMap zl).foldl ui (some [])
theorem nX(b:List zj):b.foldl ui none=none:=by
 induction b with
 |nil=>rfl
 |cons a b c=>exact c
theorem sT:∀(d:List zj) (t:List zh),(∀e∈t,e.qh<=0)->∀a,d.foldl ui (some t)=some a->∀e∈a,e.qh<=0
 |[],t,c,a,h=>by simp at h;subst h;exact c
 |l::d,t,c,a,h=>by
  simp only[un] at h;cases b:vh t l with
  |none=>rw[show ui (some t) l=none from b,nX] at h;cases h
  |some f=>rw[show ui (some t) l=some f from b] at h;exact sT d f (Ms b c) a h
theorem sj:∀(b:List zj) (t:List zh),∀a,b.foldl ui (some t)=some a->a.length<=t.length+b.length
 |[],t,a,h=>by simp at h;subst h;simp
 |l::b,t,a,h=>by
  simp only[un] at h;cases c:vh t l with
  |none=>rw[show ui (some t) l=none from c,nX] at h;cases h
  |some d=>rw[show ui (some t) l=some d from c] at h;have:=sj b d a h;have:=iY c;simp;omega
theorem B6(B:Nat)(w:World)(tb:Nat)(t:List zh)(l:zj)(c:Option Addr)(a:Nat)(h:TA B w tb t)(i:t.length<=1000)(b:vh t l=none):
  Calls prog 102 #[.pointer (some ⟨tb,0,none⟩),.agg #[.bool l.neg,.string l.pred,.slice c l.args.length a]] w fun e j=>e=.returned (.bool false)/\Below w.heap.size w j:=by
 unfold vh at b;split at b
 ·rename_i f g;split at b
  ·cases b
  ·rename_i d;have:=EO B w tb t l c a h i f g;rw[decide_eq_false d] at this;exact this
 ·cases b
theorem CC(B:Nat)(w:World)(tb:Nat)(t m:List zh)(l:zj)(c:Option Addr)(a:Nat)(h:TA B w tb t)(n:t.length<=1000)(b:vh t l=some m)(k:B<=w.heap.size)(f:B<=tb):
  Calls prog 102 #[.pointer (some ⟨tb,0,none⟩),.agg #[.bool l.neg,.string l.pred,.slice c l.args.length a]] w fun e d=>e=.returned (.bool true)/\TA B d tb m/\Below B w d/\vM tb w d:=by
 unfold vh at b;split at b
 ·rename_i p j;split at b
  ·rename_i i;simp at b;subst b;have:=EO B w tb t l c a h n p j;rw[decide_eq_true i] at this;refine this.mono ?_;rintro e d ⟨rfl,g⟩;exact⟨rfl,h.below g,g.mono k,vM.of g⟩
  ·cases b
 ·rename_i j;simp at b;subst b;exact LJ B w tb t l c a h n j k f
def ei(o:Option (List zh))(w:World)(e:Ending)(a:World):Prop:=
 Below w.heap.size w a/\match o with
  |none=>e=.returned (.tuple #[.agg #[.slice none 0 0],.bool false])
  |some t=>∃b,e=.returned (.tuple #[.agg #[b],.bool true])/\a.ownsRow w.heap.size 221 3 b t.length (xW t)
theorem Bs{w a:World}(h:Hid (o=none))(c:Below w.heap.size w a):ei o w (.returned (.tuple #[.agg #[.slice none 0 0],.bool false])) a:=by
 have b:o=none:=h;subst b;exact⟨c,rfl⟩
theorem EV{w b:World}{a:Value}(h:Hid (o=some t))(c:Below w.heap.size w b)(d:b.ownsRow w.heap.size 221 3 a t.length (xW t)):ei o w (.returned (.tuple #[.agg #[a],.bool true])) b:=by
 have e:o=some t:=h;subst e;exact⟨c,a,rfl,d⟩
theorem Bg(w:World)(v:Value)(cs:List zc)(I:Qa lo 171 w v cs)(hN:(cs.flatMap zl).length<=1000):
  Calls prog 62 #[v] w fun e w'=>ei (ud cs) w e w':=by
 obtain⟨ao,a7,rfl⟩:=I.qx;have a5:cs.length<=1000:=by
  have:cs.length<=(cs.flatMap zl).length:=by
   clear hN I;induction cs with
   |nil=>simp
   |cons c cs ih=>simp[zl] at ih ⊢;omega
  omega
 go_enter func62,ntmps62;go_wp2;go_loopw [11] (fun i wr=>∃(k:Nat) (tk:List zh),k<=cs.length/\i=.int .i64 k/\Below w.heap.size w wr/\TA w.heap.size wr (w.heap.size+1) tk/\Py wr w.heap.size #[.slice none 0 0] 127/\tk.length+((cs.drop k).flatMap zl).length<=1000/\Hid (ud cs=((cs.drop k).flatMap zl).foldl ui (some tk))) (fun i _=>cs.length-(intOf i).toNat)
 case atStart=>
  have s:=(zo w.heap.size w).alloc (zf _) (.cells #[.slice none 0 0] 127);exact⟨0,[],zx _,rfl,(by go_grown),⟨_,Py.newAt _ _ _ _ (by simp),yI _ _ _ _⟩,(Py.new w _ _).below zQ,(by simpa using hN),rfl⟩
 case round=>
  obtain⟨k,tk,hk,rfl,m,r,f,W,H⟩:=hrel;have D:=m.size;have au:=f.lt;have aD:w.heap.size+1<wr.heap.size:=by obtain⟨_,hb,_⟩:=r;exact hb.lt
  by_cases Y:k<cs.length
  ·have G:=xk Y;obtain⟨g,aA,aw,a3,ay,rfl,hg,X,U,ad,S,ar,ag⟩:=I.cell k Y;have aC:=zm m hg X;have a4:=zm m hg U;have aE:=zm m hg ad;have a0:=zm m hg S;have a1:g<wr.heap.size:=by omega
   clear X U ad S ar;generalize cs[k]=c at *;rw[G] at W;have H1:Hid (ud cs=(c.body++(cs.drop (k+1)).flatMap zl).foldl ui (ui (some tk) c.head)):=by rw[Hid,H.out,G];rfl
   simp only[uo,zl,yv,xd] at W;generalize hR:(cs.drop (k+1)).flatMap zl=rest at *;have HR:=Px hR;clear hR H G;cases h:vh tk c.head with
   |none=>
    have K:=Px h;have M:Hid (ud cs=none):=by rw[Hid,H1.out,show ui (some tk) c.head=none from h,nX]
    clear H1 h;go_wp2_with (first|(go_at_call 102;refine(B6 w.heap.size _ (w.heap.size+1) tk c.head _ _ (by exact r.below (by go_grown)) (by omega) K).mono ?_;rintro e w1 ⟨rfl,s⟩;have ae:=P3 ((zo wr.heap.size wr).alloc (zf _) _) s;have T:=P3 m ae;have b:=f.below ae;obtain⟨q,O,aj⟩:=b.boxed))
    exact zK (v:=.tuple #[.agg #[.slice none 0 0],.bool false]) (by simp[results,results62,go_sem,q]) rfl (Bs M (by go_grown))
   |some t1=>
    have K:=Px h;have a9:=iY h;have H2:Hid (ud cs=(c.body++rest).foldl ui (some t1)):=by rw[Hid,H1.out,show ui (some tk) c.head=some t1 from h]
    clear H1 h;go_wp2_with (first|(go_at_call 102;refine(CC w.heap.size _ (w.heap.size+1) tk t1 c.head _ _ (by exact r.below (by go_grown)) (by omega) K (by exact zT D (by simp)) (by omega)).mono ?_;rintro e w1 ⟨rfl,ak,s,A⟩;have T:=(m.alloc D _).trans s;have b:=A.box _ _ _ (by omega) (by decide) (f.below zQ);have aa:=A.box _ _ _ (by omega) (by decide) (Py.new wr _ _);obtain⟨af,am,aq⟩:=aa.boxed;have aj:=b.lt))
    go_loopw [23] (fun i wj=>∃(j:Nat) (p:List zh),j<=c.body.length/\i=.int .i64 j/\Below w.heap.size w wj/\TA w.heap.size wj (w.heap.size+1) p/\Py wj w.heap.size #[.slice none 0 0] 127/\p.length+(c.body.drop j).length+rest.length<=1000/\Hid (ud cs=(c.body.drop j++rest).foldl ui (some p))) (fun i _=>c.body.length-(intOf i).toNat)
    case atStart=>exact⟨0,t1,zx _,rfl,T,ak,b,(by simp;omega),H2⟩
    case round=>
     clear af am aa aq;obtain⟨j,p,hj,rfl,l,x,d,Z,HJ⟩:=hrel;have E:=l.size;have an:=d.lt;by_cases Q:j<c.body.length
     ·obtain⟨gl,aG,ax,rfl,F,ac,C,z,_⟩:=ag.cell j Q;have aB:=zm l F ac;have aH:=zm l F C;have a2:=zm l F z;have aF:gl<wr.heap.size:=by omega
      have J:=xk Q;clear ac C z;generalize c.body[j]=a at *;rw[J] at Z;have u:Hid (ud cs=(c.body.drop (j+1)++rest).foldl ui (ui (some p) a)):=by rw[Hid,HJ.out,J];rfl
      simp only[xd] at Z;clear J HJ;cases h:vh p a with
      |none=>
       have K:=Px h;have M:Hid (ud cs=none):=by rw[Hid,u.out,show ui (some p) a=none from h,nX]
       clear u h;go_wp2_with (first|(go_at_call 102;refine(B6 w.heap.size _ (w.heap.size+1) p a _ _ (by exact x.below (by go_grown)) (by omega) K).mono ?_;rintro e w3 ⟨rfl,L⟩;have R:=P3 ((zo wr.heap.size wr).alloc (zf _) _) L;have B:=P3 l R;have n:=d.below R;obtain⟨q,O,a8⟩:=n.boxed))
       exact zK (v:=.tuple #[.agg #[.slice none 0 0],.bool false]) (by simp[results,results62,go_sem,q]) rfl (Bs M (by go_grown))
      |some t2=>
       have K:=Px h;have a6:=iY h;have ai:Hid (ud cs=(c.body.drop (j+1)++rest).foldl ui (some t2)):=by rw[Hid,u.out,show ui (some p) a=some t2 from h]
       have av:w.heap.size+1<wr.heap.size:=by obtain⟨_,hb,_⟩:=x;exact hb.lt
       clear u h;go_wp2_with (first|(go_at_call 102;refine(CC w.heap.size _ (w.heap.size+1) p t2 a _ _ (by exact x.below (by go_grown)) (by omega) K (by exact zT E (by simp)) (by omega)).mono ?_;rintro e w3 ⟨rfl,al,L,N⟩;have B:=(l.alloc E _).trans L;have n:=N.box _ _ _ (by omega) (by decide) (d.below zQ)))
       go_roundw
       case rel=>exact⟨j+1,t2,by omega,by go_num,B,al,n,by omega,ai⟩
       case measure=>simp[intOf];omega
     ·have HE:Hid (ud cs=((cs.drop (k+1)).flatMap zl).foldl ui (some p)):=by rw[Hid,HJ.out,ug (by omega),HR.out];rfl
      have ah:p.length+rest.length<=1000:=by omega
      clear HJ;go_wp2;go_roundw
      case rel=>exact⟨k+1,p,by omega,by go_num,l,x,d,by rw[HR.out];exact ah,HE⟩
      case measure=>simp[intOf];omega
  ·have M:Hid (ud cs=some tk):=by rw[Hid,H.out,ug (by omega)];rfl
   obtain⟨P,y,V,ab⟩:=r.view;obtain⟨hc,hf⟩:=V.rules;obtain⟨q,O⟩:=f.rules;have az:=V.lt;clear H;go_wp2;have ap:=xK ab ((PB.refl w.heap.size wr).setCell 0 (.slice P tk.length y)) f (by decide);exact zK (v:=.tuple #[.agg #[.slice P tk.length y],.bool true]) (by simp[results,results62,go_sem,q]) rfl (EV M (by go_grown) ap)
end
section
variable {lo:Nat}
def oD(l:zj):Prop:=l.pred.size<=6/\0<l.pred.size/\l.args.length<=1000/\∀t∈l.args,0<t.size/\t.size<=6
def wW(c:zc):Prop:=(∀l∈zl c,oD l)/\c.body.length<=1000
end
end Go.Proofs.YteampbddflhngaaGreat
