import Derived.Deep.Cut
import Derived.Laws.AppendOwnNone
import Derived.Test.YteampbddflhngaaGreatQ07
import Derived.Test.YteampbddflhngaaGreatQ08
namespace Go.Proofs.YteampbddflhngaaGreat
set_option linter.all false
set_option maxRecDepth 100000
set_option maxHeartbeats 40000000
section
open Go.Proofs.Tryz Go.RowKit
variable {lo:Nat}{o:Option (List zk)}
def C9(w:World)(v:Value)(l:κ)(b:Bool)(k:SV w v l)(g:∀y∈l,0<y.size)(r:l.length<=500):
  Calls prog 152 #[v,.bool b] w λe z=>jD (jz l b) w e z:=by
 unfold jz;cases p:Sm l b;rw[za (by simp)];by_cases d:l.length=0;have:xu false l=none:=by unfold xu;rw[zb d]
 rw[this];exact Ka w v l b k g r p d;cases f:yY (RA (gB l 0) 0);have:xu false l=none:=by unfold xu;rw[za d,zb f]
 rw[this];exact Li w v l b k g r p d f;by_cases j:l.length=1;have:xu false l=some ⟨false,gB l 0,[]⟩:=by unfold xu;rw[za d,f,za (by simp),zb j]
 rw[this];exact Ku w v l b k g r p d f j;by_cases a:l.length<4∨l.length%2=1∨((gB l 1).toList == [40])=false∨((gB l (l.length-1)).toList == [41])=false;have:xu false l=none:=by unfold xu;rw[za d,f,za (by simp),za j,zb a]
 rw[this];by_cases q:l.length<4;exact MR w v l b k g r p d f j q;by_cases s:l.length%2=1;exact GE w v l b k g r p d f j q s;cases m:((gB l 1).toList == [40]);exact Hz w v l b k g r p d f j q s m;cases n:((gB l (l.length-1)).toList == [41]);exact KQ w v l b k g r p d f j q s m n;rw[m,n] at a;simp at a;omega;simp only[not_or,sJ] at a;exact MT w v l b k g r p d f j a.1 a.2.1 a.2.2.1 a.2.2.2;rw[zb rfl];simp only[Sm,uG,decide_eq_true_eq,sC] at p;obtain⟨⟨u,t⟩,rfl⟩:=p;rcases l with _|⟨x,l⟩;simp at u;have h:(x.toList == [33])=true:=t;have c:∀y∈l,0<y.size:=λy A=>g y (pF _ A);have i:l.length<=500:=by simp at r;omega
 rw[lU];by_cases d:l.length=0;have:xu true l=none:=by unfold xu;rw[zb d]
 rw[this];exact MA w v x l k c h i d;cases f:yY (RA (gB l 0) 0);have:xu true l=none:=by unfold xu;rw[za d,zb f]
 rw[this];exact Io w v x l k c h i d f;by_cases j:l.length=1;have:xu true l=some ⟨true,gB l 0,[]⟩:=by unfold xu;rw[za d,f,za (by simp),zb j]
 rw[this];exact Iz w v x l k c h i d f j;by_cases a:l.length<4∨l.length%2=1∨((gB l 1).toList == [40])=false∨((gB l (l.length-1)).toList == [41])=false;have:xu true l=none:=by unfold xu;rw[za d,f,za (by simp),za j,zb a]
 rw[this];by_cases q:l.length<4;exact NG w v x l k c h i d f j q;by_cases s:l.length%2=1;exact Pp w v x l k c h i d f j q s;cases m:((gB l 1).toList == [40]);exact GD w v x l k c h i d f j q s m;cases n:((gB l (l.length-1)).toList == [41]);exact Nc w v x l k c h i d f j q s m n;rw[m,n] at a;simp at a;omega;simp only[not_or,sJ] at a;exact L3 w v x l k c h i d f j a.1 a.2.1 a.2.2.1 a.2.2.2
def A0(w:World)(v:Value)(l:κ)(a:Bool)(k:SV w v l)(d:∀y∈l,0<y.size)(q:l.length<=500)(h:jz l a=none):
  Calls prog 152 #[v,.bool a] w λe i=>∃b p f n c,e=ε (.tuple #[.agg #[.bool b,.string p,.slice f n c],.bool false])/\μ w i:=by
 refine(C9 w v l a k d q).mono ?_;rintro e i ⟨m,g⟩;rw[h] at g;obtain⟨b,p,f,n,c,j⟩:=g;exact⟨b,p,f,n,c,j,m⟩
def eV(w:World)(v:Value)(l:κ)(b:Bool)(a:zk)(n:SV w v l)(d:∀y∈l,0<y.size)(i:l.length<=500)(h:jz l b=some a):
  Calls prog 152 #[v,.bool b] w λe f=>∃c,e=ε (.tuple #[.agg #[.bool a.neg,.string a.pred,c],.bool true])/\R7 w.heap.size f c a.args/\μ w f:=by
 refine(C9 w v l b n d i).mono ?_;rintro e f ⟨m,g⟩;rw[h] at g;obtain⟨c,k,j⟩:=g;exact⟨c,k,j,m⟩
def eN(o:Option (List zk))(w:World)(e:Ending)(w':World):Prop:=
 μ w w'/\match o with
  |none=>e=ε (.tuple #[ν,.bool false])
  |some a=>∃v,e=ε (.tuple #[v,.bool true])/\Sc w.heap.size w' v a
def AO{w w':World}(h:Hid (o=none))(b:μ w w'):eN o w (ε (.tuple #[ν,.bool false])) w':=by
 have a:o=none:=h;subst a;exact⟨b,rfl⟩
def OW{w w':World}{v:Value}{a:List zk}(h:Hid (o=some a))(c:μ w w')(hs:Sc w.heap.size w' v a):eN o w (ε (.tuple #[v,.bool true])) w':=by
 have b:o=some a:=h;subst b;exact⟨c,v,rfl,hs⟩
def CD(w:World)(v:Value)(l:κ)(Y:SV w v l)(ae:∀y∈l,0<y.size)(hl:l.length<=500):
  Calls prog 153 #[v] w λe w'=>eN (yL l (l.length+1) 0 0 0) w e w':=by
 obtain⟨i0,hi,af,ac,ad⟩:=info_parts QU;obtain⟨i1,N,_,_,_⟩:=info_parts QN;obtain⟨ao,av,rfl⟩:=Y.qy;go_enter func153,ntmps153;go_wp2;go_loopw [4,5,6,7] (λv4 v5 v6 v7 wr=>∃(g:List zk) (f k m:Nat) (d:Int) (R:List Value),v5=ι f/\v6=ι d/\v7=ι k/\f<=k/\k<=l.length+1/\m+k=l.length+1/\-500<=d+(k:Int)/\d<=k/\-(k:Int)<=d/\g.length<=k/\(k=l.length+1∨f<=l.length) ∧
   μ w wr/\wr.ownsRow w.heap.size 90 3 v4 g.length R/\uV w.heap.size wr g R/\Hid (yL l (l.length+1) 0 0 0=(yL l m f d k).map (g++·))) (λ_ _ _ i _=>l.length+1-(intOf i).toNat)
 exact⟨[],0,0,l.length+1,0,[],rfl,rfl,rfl,zf _,by omega,by omega,by omega,by omega,by omega,by simp,ze (by omega),zp _ _,yW _ _ _ _,rfl,(by simp[Hid])⟩;obtain⟨g,f,k,m,d,R,rfl,rfl,rfl,ar,am,aw,aq,ay,au,ak,ax,h,j,s,H⟩:=hrel;have al:=h.size;by_cases ap:k<=l.length
 .obtain⟨m,rfl⟩:∃m',m=m'+1:=⟨m-1,by omega⟩;by_cases M:k<l.length
  .obtain⟨b,o,rfl,ab,ag⟩:=Y.cell k M;have ai:=zl h ab ag;have an:b<wr.heap.size:=by omega
   rw[xG M] at ai;clear ag;have c:yL l (m+1) f d k=(if ((gB l k).toList == [40]) then yL l m f (d+1) (k+1) else if ((gB l k).toList == [41]) then yL l m f (d-1) (k+1) else if ((gB l k).toList == [44])=false∨0<d then yL l m f d (k+1) else match jz ((l.drop f).take (k-f)) false with|none=>none|some a=>(yL l m (k+1) d (k+1)).map (a::·)):=by rw[yL,zb M];try rfl
   cases A:((gB l k).toList == [40])
   .cases z:((gB l k).toList == [41])
    .cases G:((gB l k).toList == [44])
     .have D:Hid (yL l (l.length+1) 0 0 0=(yL l m f d (k+1)).map (g++·)):=by rw[Hid,H.out,c,A,z,G];simp
      clear H c;generalize gB l k=x at *;go_wp2;go_roundw;exact⟨g,f,k+1,m,d,R,rfl,rfl,by go_num,by omega,by omega,by omega,by omega,by omega,by omega,by omega,by omega,h,j,s,D⟩;simp[intOf];omega
     by_cases aj:0<d
     .have D:Hid (yL l (l.length+1) 0 0 0=(yL l m f d (k+1)).map (g++·)):=by rw[Hid,H.out,c,A,z,G];simp[aj]
      clear H c;generalize gB l k=x at *;go_wp2;go_roundw;exact⟨g,f,k+1,m,d,R,rfl,rfl,by go_num,by omega,by omega,by omega,by omega,by omega,by omega,by omega,by omega,h,j,s,D⟩;simp[intOf];omega
     rw[A,z,G,za (by simp),za (by simp),za (by simp;omega)] at c;generalize gB l k=x at *;have C:Hid (∀y∈(l.drop f).take (k-f),0<y.size):=λy hy=>ae y (dT (dJ hy));rcases B:jz ((l.drop f).take (k-f)) false with _|a
     .have O:=Ry B;have HF:Hid (yL l (l.length+1) 0 0 0=none):=by rw[Hid,H.out,c,B];rfl
      clear H c B;go_wp2_with (first|(refine qT _ w rfl (.tmp 58) 30 9 (some (.tmp 59)) (some (.tmp 60)) rfl underlying30 i1 N Rl _ l rfl Y f k (ze rfl) (ze rfl) (by omega) (by omega) (k-f) rfl ?_;intro P E u)|(go_at_call 152;refine(A0 _ _ ((l.drop f).take (k-f)) false (by exact u.below h) C.out (by simp;omega) O).mono ?_;rintro e w1 ⟨b1,p1,ah,n1,aa,rfl,n⟩;have p:=R5 h n;have L:=p.size))
      go_ret2
      exact AO HF (by go_grown)
     have O:=Ry B;have D:Hid (yL l (l.length+1) 0 0 0=(yL l m (k+1) d (k+1)).map ((g++[a])++·)):=by rw[Hid,H.out,c,B];simp only[];rw[rI]
     clear H c B;go_wp2_with (first|(refine qT _ w rfl (.tmp 58) 30 9 (some (.tmp 59)) (some (.tmp 60)) rfl underlying30 i1 N Rl _ l rfl Y f k (ze rfl) (ze rfl) (by omega) (by omega) (k-f) rfl ?_;intro P E u)|(go_at_call 152;refine(eV _ _ ((l.drop f).take (k-f)) false a (by exact u.below h) C.out (by simp;omega) O).mono ?_;rintro e w1 ⟨va,rfl,r,n⟩;obtain⟨X,F,rfl⟩:=r.qy;have p:=R5 h n;have L:=p.size;have t:=zB j n;have I:=s.mono λ_ _ q=>q.below n)|(at_builtin;refine kA w1 _ _ _ rfl (.tmp 67) (.tmp 69) 91 rfl w.heap.size 90 i0 _ 3 48 underlying91 hi af ac ad rfl (by decide) _ _ _ rfl t zP _ _ rfl (by simp) rfl (by simp[Value.oneCell']) (by omega) (by omega) L ?_;intro v' w2 S T Q W K Z;clear Q W;have U:R7 w.heap.size w2 (Value.slice X a.args.length F) a.args:=yk (gD t (by decide) r K) h.size;have J:=I.mono λ_ _ q=>gD t (by decide) q K))
     go_roundw;exact⟨g++[a],k+1,k+1,m,d,_,by go_num,rfl,by go_num,zf _,by omega,by omega,by omega,by omega,by omega,by simp;omega,by omega,p.trans T,by rw[yC];exact S,J.snoc U,D⟩;simp[intOf];omega
    obtain⟨_,G⟩:=s41 z;have D:Hid (yL l (l.length+1) 0 0 0=(yL l m f (d-1) (k+1)).map (g++·)):=by rw[Hid,H.out,c,A,z];rfl
    clear H c;generalize gB l k=x at *;go_wp2;go_roundw;exact⟨g,f,k+1,m,d-1,R,rfl,rfl,by go_num,by omega,by omega,by omega,by omega,by omega,by omega,by omega,by omega,h,j,s,D⟩;simp[intOf];omega
   obtain⟨z,G⟩:=s40 A;have D:Hid (yL l (l.length+1) 0 0 0=(yL l m f (d+1) (k+1)).map (g++·)):=by rw[Hid,H.out,c,A];rfl
   clear H c;generalize gB l k=x at *;go_wp2;go_roundw;exact⟨g,f,k+1,m,d+1,R,rfl,rfl,by go_num,by omega,by omega,by omega,by omega,by omega,by omega,by omega,by omega,h,j,s,D⟩;simp[intOf];omega
  have c:yL l (m+1) f d k=(match jz ((l.drop f).take (k-f)) false with|none=>none|some a=>some [a]):=by rw[yL,za M];try rfl
  have V:m=0:=by omega
  have C:Hid (∀y∈(l.drop f).take (k-f),0<y.size):=λy hy=>ae y (dT (dJ hy));rcases B:jz ((l.drop f).take (k-f)) false with _|a
  .have O:=Ry B;have HF:Hid (yL l (l.length+1) 0 0 0=none):=by rw[Hid,H.out,c,B];rfl
   clear H c B;go_wp2_with (first|(refine qT _ w rfl (.tmp 58) 30 9 (some (.tmp 59)) (some (.tmp 60)) rfl underlying30 i1 N Rl _ l rfl Y f k (ze rfl) (ze rfl) (by omega) (by omega) (k-f) rfl ?_;intro P E u)|(go_at_call 152;refine(A0 _ _ ((l.drop f).take (k-f)) false (by exact u.below h) C.out (by simp;omega) O).mono ?_;rintro e w1 ⟨b1,p1,ah,n1,aa,rfl,n⟩;have p:=R5 h n;have L:=p.size))
   go_ret2
   exact AO HF (by go_grown)
  have O:=Ry B;have D:Hid (yL l (l.length+1) 0 0 0=(yL l m (k+1) d (k+1)).map ((g++[a])++·)):=by rw[Hid,H.out,c,B,V];simp[yL]
  clear H c B;go_wp2_with (first|(refine qT _ w rfl (.tmp 58) 30 9 (some (.tmp 59)) (some (.tmp 60)) rfl underlying30 i1 N Rl _ l rfl Y f k (ze rfl) (ze rfl) (by omega) (by omega) (k-f) rfl ?_;intro P E u)|(go_at_call 152;refine(eV _ _ ((l.drop f).take (k-f)) false a (by exact u.below h) C.out (by simp;omega) O).mono ?_;rintro e w1 ⟨va,rfl,r,n⟩;obtain⟨X,F,rfl⟩:=r.qy;have p:=R5 h n;have L:=p.size;have t:=zB j n;have I:=s.mono λ_ _ q=>q.below n)|(at_builtin;refine kA w1 _ _ _ rfl (.tmp 67) (.tmp 69) 91 rfl w.heap.size 90 i0 _ 3 48 underlying91 hi af ac ad rfl (by decide) _ _ _ rfl t zP _ _ rfl (by simp) rfl (by simp[Value.oneCell']) (by omega) (by omega) L ?_;intro v' w2 S T Q W K Z;clear Q W;have U:R7 w.heap.size w2 (Value.slice X a.args.length F) a.args:=yk (gD t (by decide) r K) h.size;have J:=I.mono λ_ _ q=>gD t (by decide) q K))
  go_roundw;exact⟨g++[a],k+1,k+1,m,d,_,by go_num,rfl,by go_num,zf _,by omega,by omega,by omega,by omega,by omega,by simp;omega,by omega,p.trans T,by rw[yC];exact S,J.snoc U,D⟩;simp[intOf];omega
 have V:m=0:=by omega
 have HF:Hid (yL l (l.length+1) 0 0 0=some g):=by rw[Hid,H.out,V];simp[yL]
 clear H;go_wp2;go_ret2
 exact OW HF h ⟨_,j,s⟩
end
section
open Go.Proofs.Tryz Go.RowKit
variable {lo:Nat}
def Q1(o:Option zd)(w:World)(e:Ending)(w':World):Prop:=
 μ w w'/\match o with
  |none=>∃b p j n f d i a,e=ε (.tuple #[.agg #[.bool b,.string p,.slice j n f,.slice d i a],.bool false])
  |some c=>∃h g,e=ε (.tuple #[.agg #[.bool c.head.neg,.string c.head.pred,h,g],.bool true])/\R7 w.heap.size w' h c.head.args/\Sc w.heap.size w' g c.body
def Mq(w:World)(v:Value)(l:κ)(g:SV w v l)(a:∀y∈l,0<y.size)(d:l.length<=500)(h:yL l (l.length+1) 0 0 0=none):
  Calls prog 153 #[v] w λe c=>e=ε (.tuple #[ν,.bool false])/\μ w c:=by
 refine(CD w v l g a d).mono ?_;rintro e c ⟨f,b⟩;rw[h] at b;exact⟨b,f⟩
def M9(w:World)(v:Value)(l:κ)(g:List zk)(m:SV w v l)(d:∀y∈l,0<y.size)(j:l.length<=500)(h:yL l (l.length+1) 0 0 0=some g):
  Calls prog 153 #[v] w λe f=>∃c,e=ε (.tuple #[c,.bool true])/\Sc w.heap.size f c g/\μ w f:=by
 refine(CD w v l m d j).mono ?_;rintro e f ⟨k,i⟩;rw[h] at i;obtain⟨c,a,b⟩:=i;exact⟨c,a,b,k⟩
def C6(w:World)(v:Value)(l:κ)(T:SV w v l)(ak:∀y∈l,0<y.size)(hl:l.length<=500):
  Calls prog 107 #[v] w λe w'=>Q1 (jR l) w e w':=by
 obtain⟨i1,M,_,_,_⟩:=info_parts QN;obtain⟨ao,a3,rfl⟩:=T.qy;have hW:μ w ((w.alloc (.cells #[.bool false,.string {data:=#[]},ν,ν] 93)).alloc (.cells #[.bool false,.string {data:=#[]},ν,ν] 93)):=(by go_grown);have af:Rz ((w.alloc (.cells #[.bool false,.string {data:=#[]},ν,ν] 93)).alloc (.cells #[.bool false,.string {data:=#[]},ν,ν] 93)) w.heap.size #[.bool false,.string {data:=#[]},ν,ν] 93:=(Rz.new w _ _).below zP;have Z:Rz ((w.alloc (.cells #[.bool false,.string {data:=#[]},ν,ν] 93)).alloc (.cells #[.bool false,.string {data:=#[]},ν,ν] 93)) (w.heap.size+1) #[.bool false,.string {data:=#[]},ν,ν] 93:=Rz.newAt _ _ _ _ (by simp);go_enter func107,ntmps107;go_wp2;go_loop [5] (λi=>∃k:Nat,k<=l.length/\i=ι k/\Hid (xU l=k+xU (l.drop k))) (λi=>l.length-(intOf i).toNat);exact⟨0,zv _,rfl,by simp[Hid]⟩;obtain⟨k,hk,rfl,H⟩:=hrel;by_cases L:k<l.length
 case' pos=>
  obtain⟨b,o,rfl,a2,a0⟩:=T.cell k L;rw[xG L] at a0;cases hI:((gB l k).toList == [58,45])
  .have H2:Hid (xU l=(k+1)+xU (l.drop (k+1))):=by rw[Hid,H.out,OQ L hI];omega
   clear H;generalize gB l k=x at *;go_wp2;go_round;exact⟨k+1,by omega,by go_num,H2⟩;simp[intOf];omega
  have Y:Hid (xU l=k):=by rw[Hid,H.out,K9 L hI];rfl
  generalize gB l k=x at *
 case' neg=>
  have Y:Hid (xU l=k):=by rw[Hid,H.out,ua (by omega)];rfl
 all_goals
  clear H;have U:Hid (∀y∈l.take k,0<y.size):=λy hy=>ak y (dJ hy);cases hL:jz (l.take k) true
  .have S:=Ry hL;have Q:Hid (jR l=none):=by unfold Hid jR;rw[Y.out,hL]
   clear hL;go_upto_region 7 with (first|(refine qT _ w rfl (.tmp 24) 30 9 none (some (.tmp 25)) rfl underlying30 i1 M Rl _ l rfl T 0 k (zh ⟨rfl,rfl⟩) (ze rfl) (by omega) (by omega) k rfl ?_;intro au W F;rw[gW] at F)|(go_at_call 152;refine(A0 _ _ (l.take k) true (by exact F.below hW) U.out (by simp;omega) S).mono ?_;rintro e I ⟨G,J,d,K,c,rfl,n⟩;have f:=af.below n;have j:=Z.below n;obtain⟨t,A⟩:=f.rules;obtain⟨C,q,ay⟩:=j.boxed;have ag:=f.lt;have R:=R5 hW n))
   have z:Rz ((((I.setCell ⟨w.heap.size+1,0,none⟩ (.bool G)).setCell ⟨w.heap.size+1,1,none⟩ (.string J)).setCell ⟨w.heap.size+1,2,none⟩ (.slice d K c)).alloc (.cells #[.bool G,.string J,.slice d K c] 90)) (w.heap.size+1) #[.bool G,.string J,.slice d K c,ν] 93:=(((j.set 0 _).set 1 _).set 2 _).below zP;have h:Rz ((((I.setCell ⟨w.heap.size+1,0,none⟩ (.bool G)).setCell ⟨w.heap.size+1,1,none⟩ (.string J)).setCell ⟨w.heap.size+1,2,none⟩ (.slice d K c)).alloc (.cells #[.bool G,.string J,.slice d K c] 90)) w.heap.size #[.bool false,.string {data:=#[]},ν,ν] 93:=(((f.set_ne (by omega) _ _).set_ne (by omega) _ _).set_ne (by omega) _ _).below zP;have B:μ w ((((I.setCell ⟨w.heap.size+1,0,none⟩ (.bool G)).setCell ⟨w.heap.size+1,1,none⟩ (.string J)).setCell ⟨w.heap.size+1,2,none⟩ (.slice d K c)).alloc (.cells #[.bool G,.string J,.slice d K c] 90)):=by have hq:=R.size;exact(by go_grown)
   generalize ((((I.setCell ⟨w.heap.size+1,0,none⟩ (.bool G)).setCell ⟨w.heap.size+1,1,none⟩ (.string J)).setCell ⟨w.heap.size+1,2,none⟩ (.slice d K c)).alloc (.cells #[.bool G,.string J,.slice d K c] 90))=w2 at *;clear f j t A C q;obtain⟨D,V⟩:=h.rules;obtain⟨ai,aa,a1⟩:=z.boxed;have ad:=h.lt;go_wp2;rw[Q.out];exact zO (v:=.tuple #[.agg #[.bool G,.string J,.slice d K c,ν],.bool false]) (by simp[results,results107,go_sem,D]) rfl ⟨(by go_grown),_,_,_,_,_,_,_,_,rfl⟩
  rename_i a;have S:=Ry hL;clear hL;go_upto_region 7 with (first|(refine qT _ w rfl (.tmp 24) 30 9 none (some (.tmp 25)) rfl underlying30 i1 M Rl _ l rfl T 0 k (zh ⟨rfl,rfl⟩) (ze rfl) (by omega) (by omega) k rfl ?_;intro au W F;rw[gW] at F)|(go_at_call 152;refine(eV _ _ (l.take k) true a (by exact F.below hW) U.out (by simp;omega) S).mono ?_;rintro e I ⟨va,rfl,aj,n⟩;obtain⟨d,c,rfl⟩:=aj.qy;have f:=af.below n;have j:=Z.below n;obtain⟨t,A⟩:=f.rules;obtain⟨C,q,ay⟩:=j.boxed;have ag:=f.lt;have R:=R5 hW n))
  have z:Rz ((((I.setCell ⟨w.heap.size+1,0,none⟩ (.bool a.neg)).setCell ⟨w.heap.size+1,1,none⟩ (.string a.pred)).setCell ⟨w.heap.size+1,2,none⟩ (.slice d a.args.length c)).alloc (.cells #[.bool a.neg,.string a.pred,.slice d a.args.length c] 90)) (w.heap.size+1) #[.bool a.neg,.string a.pred,.slice d a.args.length c,ν] 93:=(((j.set 0 _).set 1 _).set 2 _).below zP;have h:Rz ((((I.setCell ⟨w.heap.size+1,0,none⟩ (.bool a.neg)).setCell ⟨w.heap.size+1,1,none⟩ (.string a.pred)).setCell ⟨w.heap.size+1,2,none⟩ (.slice d a.args.length c)).alloc (.cells #[.bool a.neg,.string a.pred,.slice d a.args.length c] 90)) w.heap.size #[.bool false,.string {data:=#[]},ν,ν] 93:=(((f.set_ne (by omega) _ _).set_ne (by omega) _ _).set_ne (by omega) _ _).below zP;have B:μ w ((((I.setCell ⟨w.heap.size+1,0,none⟩ (.bool a.neg)).setCell ⟨w.heap.size+1,1,none⟩ (.string a.pred)).setCell ⟨w.heap.size+1,2,none⟩ (.slice d a.args.length c)).alloc (.cells #[.bool a.neg,.string a.pred,.slice d a.args.length c] 90)):=by have hq:=R.size;exact(by go_grown)
  have aq:R7 w.heap.size ((((I.setCell ⟨w.heap.size+1,0,none⟩ (.bool a.neg)).setCell ⟨w.heap.size+1,1,none⟩ (.string a.pred)).setCell ⟨w.heap.size+1,2,none⟩ (.slice d a.args.length c)).alloc (.cells #[.bool a.neg,.string a.pred,.slice d a.args.length c] 90)) (.slice d a.args.length c) a.args:=((aj.low (by simp only[World.size_alloc];omega)).but (r:=w.heap.size+1) ((((RD.refl _ _).setCell _ _).setCell _ _).setCell _ _) j (by decide)).below zP;generalize ((((I.setCell ⟨w.heap.size+1,0,none⟩ (.bool a.neg)).setCell ⟨w.heap.size+1,1,none⟩ (.string a.pred)).setCell ⟨w.heap.size+1,2,none⟩ (.slice d a.args.length c)).alloc (.cells #[.bool a.neg,.string a.pred,.slice d a.args.length c] 90))=w2 at *;clear f j t A C q;obtain⟨D,V⟩:=h.rules;obtain⟨ai,aa,a1⟩:=z.boxed;have ad:=h.lt
 .have ah:Hid (k=l.length):=by unfold Hid;omega
  have Q:Hid (jR l=some ⟨a,[]⟩):=by unfold Hid jR;rw[Y.out,S.out];simp only[];rw[zb ah.out]
  have aw:((k:Int) == (l.length:Int))=true:=by rw[beq_iff_eq];have:=ah.out;omega
  go_wp2;rw[Q.out];exact zO (v:=.tuple #[.agg #[.bool a.neg,.string a.pred,.slice d a.args.length c,ν],.bool true]) (by simp[results,results107,go_sem,D]) rfl ⟨(by go_grown),_,_,rfl,aq.but (r:=w.heap.size) (by repeat'(first|with_reducible(first|apply xR|assumption|apply xN|apply xA|apply xD|apply xS|apply xT)|go_size)) h (by decide),Sc.nil _⟩
 have N:Hid (∀y∈l.drop (k+1),0<y.size):=λy hy=>ak y (dT hy);have aw:((k:Int) == (l.length:Int))=false:=by rw[beq_eq_false_iff_ne];omega
 rcases p:yL (l.drop (k+1)) ((l.drop (k+1)).length+1) 0 0 0 with _|bd
 .have O:=Ry p;have Q:Hid (jR l=none):=by unfold Hid jR;rw[Y.out,S.out];simp only[];rw[za (by omega),p]
  clear p;go_wp2_with (first|(refine qT _ w rfl (.tmp 43) 30 9 (some (.tmp 45)) none rfl underlying30 i1 M Rl _ l rfl T (k+1) l.length (ze rfl) (zh ⟨rfl,rfl⟩) (by omega) (by omega) (l.length-(k+1)) rfl ?_;intro ax ac E;rw[xk (by simp)] at E)|(go_at_call 153;refine(Mq _ _ (l.drop (k+1)) (by exact E.below B) N.out (by simp;omega) O).mono ?_;rintro e w3 ⟨rfl,g⟩;have m:=h.below g;have u:=z.below g;obtain⟨s,am⟩:=m.rules;obtain⟨ap,an,ar⟩:=u.boxed;have ab:=m.lt;have P:=R5 B g;have X:=P.size))
  rw[Q.out];exact zO (v:=.tuple #[.agg #[.bool a.neg,.string a.pred,.slice d a.args.length c,ν],.bool false]) (by simp[results,results107,go_sem,s]) rfl ⟨(by go_grown),_,_,_,_,_,_,_,_,rfl⟩
 have O:=Ry p;have Q:Hid (jR l=some ⟨a,bd⟩):=by unfold Hid jR;rw[Y.out,S.out];simp only[];rw[za (by omega),p]
 clear p;go_wp2_with (first|(refine qT _ w rfl (.tmp 43) 30 9 (some (.tmp 45)) none rfl underlying30 i1 M Rl _ l rfl T (k+1) l.length (ze rfl) (zh ⟨rfl,rfl⟩) (by omega) (by omega) (l.length-(k+1)) rfl ?_;intro ax ac E;rw[xk (by simp)] at E)|(go_at_call 153;refine(M9 _ _ (l.drop (k+1)) bd (by exact E.below B) N.out (by simp;omega) O).mono ?_;rintro e w3 ⟨vb,rfl,ae,g⟩;obtain⟨av,al,rfl⟩:=ae.qy;have m:=h.below g;have u:=z.below g;obtain⟨s,am⟩:=m.rules;obtain⟨ap,an,ar⟩:=u.boxed;have ab:=m.lt;have P:=R5 B g;have X:=P.size))
 rw[Q.out];have az:=aq.below g;exact zO (v:=.tuple #[.agg #[.bool a.neg,.string a.pred,.slice d a.args.length c,.slice av bd.length al],.bool true]) (by simp[results,results107,go_sem,s]) rfl ⟨(by go_grown),_,_,rfl,(az.but (r:=w.heap.size+1) ((RD.refl _ _).setCell _ _) u (by decide)).but (r:=w.heap.size) (by repeat'(first|with_reducible(first|apply xR|assumption|apply xN|apply xA|apply xD|apply xS|apply xT)|go_size)) (m.set_ne (by omega) _ _) (by decide),((ae.low (by omega)).but (r:=w.heap.size+1) ((RD.refl _ _).setCell _ _) u (by decide) (by decide)).but (r:=w.heap.size) (by repeat'(first|with_reducible(first|apply xR|assumption|apply xN|apply xA|apply xD|apply xS|apply xT)|go_size)) (m.set_ne (by omega) _ _) (by decide) (by decide)⟩
end
section
open Go.Proofs.Tryz Go.RowKit
variable {lo:Nat}{o:Option (List zd)}
def Od(w:World)(v:Value)(l:κ)(s:SV w v l)(f:∀y∈l,0<y.size)(m:l.length<=500)(h:jR l=none):
  Calls prog 107 #[v] w λe k=>∃b p i n d c g a,e=ε (.tuple #[.agg #[.bool b,.string p,.slice i n d,.slice c g a],.bool false])/\μ w k:=by
 refine(C6 w v l s f m).mono ?_;rintro e k ⟨r,j⟩;rw[h] at j;obtain⟨b,p,i,n,d,c,g,a,q⟩:=j;exact⟨b,p,i,n,d,c,g,a,q,r⟩
def G6(w:World)(v:Value)(l:κ)(c:zd)(n:SV w v l)(i:∀y∈l,0<y.size)(k:l.length<=500)(h:jR l=some c):
  Calls prog 107 #[v] w λe g=>∃f d,e=ε (.tuple #[.agg #[.bool c.head.neg,.string c.head.pred,f,d],.bool true])/\R7 w.heap.size g f c.head.args/\Sc w.heap.size g d c.body/\μ w g:=by
 refine(C6 w v l n i k).mono ?_;rintro e g ⟨m,j⟩;rw[h] at j;obtain⟨f,d,a,b,c⟩:=j;exact⟨f,d,a,b,c,m⟩
def Rj:(prog.info? 93).map (λi=>(i.zero,i.size,i.bytes))=some (some (.agg #[.bool false,.string ByteArray.empty,ν,ν]),4,72):=by kernel_rfl
def Ak(o:Option (List zd))(w:World)(e:Ending)(w':World):Prop:=
 μ w w'/\match o with
  |none=>∃c n a,e=ε (.tuple #[.slice c n a,.bool false])
  |some b=>∃v,e=ε (.tuple #[v,.bool true])/\Se w.heap.size 93 w' v b
def Bt{w w':World}{a:Option Addr}{n cap:Nat}(h:Hid (o=none))(c:μ w w'):Ak o w (ε (.tuple #[.slice a n cap,.bool false])) w':=by
 have b:o=none:=h;subst b;exact⟨c,a,n,cap,rfl⟩
def My{w w':World}{v:Value}{cs:List zd}(h:Hid (o=some cs))(b:μ w w')(hs:Se w.heap.size 93 w' v cs):Ak o w (ε (.tuple #[v,.bool true])) w':=by
 have a:o=some cs:=h;subst a;exact⟨b,v,rfl,hs⟩
def i4(w:World)(v:Value)(l:κ)(R:SV w v l)(X:∀y∈l,0<y.size)(hl:l.length<=500):
  Calls prog 66 #[v] w λe w'=>Ak (vm l) w e w':=by
 obtain⟨i0,hi,ad,Z,U⟩:=info_parts Rj;obtain⟨i1,N,_,_,_⟩:=info_parts QN;obtain⟨ao,ap,rfl⟩:=R.qy;go_enter func66,ntmps66;go_wp2;go_loopw [4,5,6] (λv4 v5 v6 wr=>∃(d:List zd) (f k m:Nat) (Q:List Value),v5=ι f/\v6=ι k/\f<=k/\m+k=l.length/\d.length<=k/\μ w wr/\wr.ownsRow w.heap.size 93 4 v4 d.length Q/\qq w.heap.size wr d Q/\Hid (vm l=(qz l m f k).map (d++·))) (λ_ _ i _=>l.length-(intOf i).toNat);exact⟨[],0,0,l.length,[],rfl,rfl,zf _,rfl,by simp,zp _ _,yW _ _ _ _,rfl,(by simp[Hid,vm])⟩;obtain⟨d,f,k,m,Q,rfl,rfl,ar,aq,ai,a,g,u,H⟩:=hrel;have ak:=a.size;by_cases L:k<l.length
 .obtain⟨m,rfl⟩:∃m',m=m'+1:=⟨m-1,by omega⟩;obtain⟨b,o,rfl,C,O⟩:=R.cell k L;have T:=zl a C O;have an:b<wr.heap.size:=by omega
  rw[xG L] at T;clear O;cases z:((gB l k).toList == [46])
  .have V:Hid (vm l=(qz l m f (k+1)).map (d++·)):=by rw[Hid,H.out,qz,z];rfl
   clear H;generalize gB l k=x at *;go_wp2;go_roundw;exact⟨d,f,k+1,m,Q,rfl,by go_num,by omega,by omega,by omega,a,g,u,V⟩;simp[intOf];omega
  have E:Hid (∀y∈(l.drop f).take (k-f),0<y.size):=λy hy=>X y (dT (dJ hy));rcases A:jR ((l.drop f).take (k-f)) with _|c
  .have S:=Ry A;have P:Hid (vm l=none):=by rw[Hid,H.out,qz,z,zb rfl,A];rfl
   clear H A;generalize gB l k=x at *;go_wp2_with (first|(refine qT _ w rfl (.tmp 21) 30 9 (some (.tmp 22)) (some (.tmp 23)) rfl underlying30 i1 N Rl _ l rfl R f k (ze rfl) (ze rfl) (by omega) (by omega) (k-f) rfl ?_;intro aa I t)|(go_at_call 107;refine(Od _ _ ((l.drop f).take (k-f)) (by exact t.below a) E.out (by simp;omega) S).mono ?_;rintro e w1 ⟨b1,p1,au,n1,al,s,n3,j,rfl,h⟩;have p:=R5 a h;have G:=p.size))
   go_ret2
   exact Bt P (by go_grown)
  have S:=Ry A;have V:Hid (vm l=(qz l m (k+1) (k+1)).map ((d++[c])++·)):=by rw[Hid,H.out,qz,z,zb rfl,A];simp only[];rw[rI]
  clear H A;generalize gB l k=x at *;go_wp2_with (first|(refine qT _ w rfl (.tmp 21) 30 9 (some (.tmp 22)) (some (.tmp 23)) rfl underlying30 i1 N Rl _ l rfl R f k (ze rfl) (ze rfl) (by omega) (by omega) (k-f) rfl ?_;intro aa I t)|(go_at_call 107;refine(G6 _ _ ((l.drop f).take (k-f)) c (by exact t.below a) E.out (by simp;omega) S).mono ?_;rintro e w1 ⟨va,vb,rfl,D,B,h⟩;obtain⟨s,j,rfl⟩:=D.qy;obtain⟨am,ah,rfl⟩:=B.qy;have p:=R5 a h;have G:=p.size;have n:=zB g h;have F:=u.mono (λ_ _ q=>q.below h) (λ_ _ q=>q.below h))|(at_builtin;refine kA w1 _ _ _ rfl (.tmp 30) (.tmp 32) 43 rfl w.heap.size 93 i0 _ 4 72 underlying43 hi ad Z U rfl (by decide) _ _ _ rfl n zP _ _ rfl (by simp) rfl (by simp[Value.oneCell']) (by omega) (by omega) G ?_;intro v' w2 W Y ac ae r aj;clear ac ae;have ab:R7 w.heap.size w2 (Value.slice s c.head.args.length j) c.head.args:=yk (gD n (by decide) D r) a.size;have af:=(B.push n (by decide) (by decide) r).low a.size;have K:=F.mono (λ_ _ q=>gD n (by decide) q r) (λ_ _ q=>q.push n (by decide) (by decide) r)))
  go_roundw;exact⟨d++[c],k+1,k+1,m,_,by go_num,by go_num,zf _,by omega,by simp;omega,p.trans Y,by rw[yC];exact W,K.snoc ab af,V⟩;simp[intOf];omega
 have M:m=0:=by omega
 obtain⟨s,j,rfl⟩:=zq g;by_cases J:f=l.length
 .have P:Hid (vm l=some d):=by rw[Hid,H.out,M,qz,zb J];simp
  have ag:((f:Int) == (l.length:Int))=true:=by rw[beq_iff_eq];omega
  clear H;go_wp2;go_ret2
  exact My P a ⟨_,g,u⟩
 have P:Hid (vm l=none):=by rw[Hid,H.out,M,qz,za J];rfl
 have ag:((f:Int) == (l.length:Int))=false:=by rw[beq_eq_false_iff_ne];omega
 clear H;go_wp2;go_ret2
 exact Bt P a
end
section
open Go.Proofs.Tryz Go.RowKit
variable {lo:Nat}
def tV(w:World)(v:Value)(vs:κ)(t:ByteArray)(hs:R7 lo w v vs)(q:vs.length<=1000):
  Calls prog 109 #[v,.string t] w λe h=>e=ε (.bool (yu t vs))/\h=w:=by
 obtain⟨p,j,rfl⟩:=hs.qy;go_enter func109,ntmps109;go_wp2;go_loop [5] (λi=>∃k:Nat,k<=vs.length/\i=ι k/\Hid (t∈vs↔t∈vs.drop k)) (λi=>vs.length-(intOf i).toNat);exact⟨0,zv _,rfl,by simp[Hid]⟩;obtain⟨k,n,rfl,H⟩:=hrel;by_cases b:k<vs.length
 .obtain⟨g,rfl,o,m⟩:=hs.cell k b;have d:=xh b;generalize vs[k]=x at *;have f:=Ry d;by_cases c:x=t
  .have l:=jF c;have a:Hid (t∈vs):=by rw[Hid,H.out,f.out,c];simp
   go_wp2;go_ret;exact⟨by rw[vH.2 a.out];rfl,rfl⟩
  have l:=qb c;have a:Hid (t∈vs↔t∈vs.drop (k+1)):=by rw[Hid,H.out,f.out];simp[Ne.symm c]
  go_wp2;go_round;exact⟨k+1,by omega,by go_num,a⟩;simp[intOf];omega
 have a:Hid (t∉vs):=by rw[Hid,H.out,ua (by omega)];simp
 go_wp2;go_ret;exact⟨by rw[rE.2 a.out];rfl,rfl⟩
def uV.one{w:World}:∀{b:List zk} {xs:List Value},uV lo w b xs->∀u∈xs,u.oneCell'=true
 |[],_,h,u,a=>by simp only[uV] at h;subst h;cases a
 |_::b,_,h,u,a=>by
  obtain⟨v,r,rfl,d,e⟩:=h;obtain⟨f,c,rfl⟩:=d.qy;simp only[zy] at a;rcases a with rfl|rfl|rfl|a
  .rfl
  .rfl
  .rfl
  .exact uV.one e u a
structure f5 (w:World) (g o:Nat) (c:zd) (ao:Option Addr) (cap:Nat) (aob:Option Addr) (capb:Nat):Prop where
 lt:g<w.heap.size
 c0:w.cell? ⟨g,o,none⟩=some (.bool c.head.neg)
 c1:w.cell? ⟨g,o+1,none⟩=some (.string c.head.pred)
 c2:w.cell? ⟨g,o+2,none⟩=some (.slice ao c.head.args.length cap)
 c3:w.cell? ⟨g,o+3,none⟩=some (.slice aob c.body.length capb)
 args:R7 0 w (.slice ao c.head.args.length cap) c.head.args
 body:Sc 0 w (.slice aob c.body.length capb) c.body
def f5.below{w w':World}{g o:Nat}{c:zd}{e:Option Addr}{cap:Nat}{d:Option Addr}{a:Nat}(h:f5 w g o c e cap d a)(b:μ w w'):f5 w' g o c e cap d a:=
 ⟨yE h.lt b.size,(b.cell (p:=⟨g,o,none⟩) h.lt).trans h.c0,(b.cell (p:=⟨g,o+1,none⟩) h.lt).trans h.c1,(b.cell (p:=⟨g,o+2,none⟩) h.lt).trans h.c2,(b.cell (p:=⟨g,o+3,none⟩) h.lt).trans h.c3,h.args.below b,h.body.below b⟩
def Se.at{T:TypeId}{w:World}{e:Option Addr}{n cap:Nat}{cs:List zd}(h:Se lo T w (.slice e n cap) cs)(k:Nat)(i:k<cs.length):∃g c b d a,e=some ⟨g,0,none⟩/\f5 w g (k*4) cs[k] c b d a:=by
 obtain⟨g,c,b,d,a,q,r,o,l,j,f,p,m⟩:=h.cell k i;exact⟨g,c,b,d,a,q,r,o,l,j,f,p.low (zv _),m.low (zv _)⟩
def tN(w:World)(g o:Nat)(c:zd)(l:Option Addr)(cap:Nat)(G:Option Addr)(f:Nat)(h:f5 w g o c l cap G f)(hl:c.body.length<=1000):
  Calls prog 68 #[.pointer (some ⟨g,o,none⟩)] w λe m=>∃v,e=.returned v/\Sc 0 m v (zm c)/\μ w m:=by
 obtain⟨Q,R,H,E,B⟩:=info_parts QU;have aa:=h.lt;have h0:=h.c0;have h1:=h.c1;have h2:=h.c2;have h3:=h.c3;obtain⟨x,n,s⟩:=h.body;have d:=(zp w.heap.size w).alloc (zf _) (.cells #[.bool c.head.neg,.string c.head.pred,.slice l c.head.args.length cap] 90);have b:(w.alloc (.cells #[.bool c.head.neg,.string c.head.pred,.slice l c.head.args.length cap] 90)).ownsRow w.heap.size 90 3 (.slice (some ⟨w.heap.size,0,none⟩) 1 1) 1 [.bool c.head.neg,.string c.head.pred,.slice l c.head.args.length cap]:=
  ⟨rfl,ze ⟨w.heap.size,1,_,rfl,zf _,Rz.new w _ _,zf _,by unfold maxLen;omega,rfl,rfl⟩⟩
 have A:=n.1;have F:=uV.one s;have i:∀m,μ w m->uV 0 m (zm c) ([.bool c.head.neg,.string c.head.pred,.slice l c.head.args.length cap]++x):=λm P=>⟨_,_,rfl,h.args.below P,s.mono λ_ _ q=>q.below P⟩;have a:=Ry i;have t:=n;obtain⟨_,⟨r,hn⟩|⟨D,S,V,r,T,N,W,Z,X,Y⟩⟩:=t
 .simp at r;obtain⟨rfl,z,rfl⟩:=r;have L:x=[]:=pA (by omega);go_enter func68,ntmps68;go_wp2_with (at_builtin;refine wpList_append_own_none rfl (.tmp 9) (.tmp 13) 91 rfl w.heap.size 90 Q 3 underlying91 R _ _ _ rfl b rfl ?_)
  go_ret;refine⟨_,rfl,⟨_,?_,a.out _ d⟩,d⟩;rw[L,vR];simpa [zm,z] using yk b (zv _)
 simp at r;obtain⟨rfl,_,rfl⟩:=r;have J:∀j u,x[j]?=some u->(w.alloc (.cells #[.bool c.head.neg,.string c.head.pred,.slice l c.head.args.length cap] 90)).cell? (Addr.add ⟨D,0,none⟩ j)=some u:=λj u y=>by
  rw[Addr.add_lit,vn,d.cell (p:=⟨D,j,none⟩) (jU.1 N).1];unfold World.cell?;rw[N];simp;rw[←Y,mp] at y;split at y;simpa using y;simp at y
 have K:=Ry J;have I:=Ry F;go_enter func68,ntmps68;go_wp2_with (at_builtin;refine wpList_append_own _ rfl (.tmp 9) (.tmp 13) 91 rfl w.heap.size 90 Q _ 3 48 underlying91 R H E B rfl (by decide) _ _ _ rfl b ⟨D,0,none⟩ c.body.length f x rfl A K.out I.out (by unfold maxLen;omega) (by omega) (by simp) ?_;intro v' w2 C M _)
 go_ret;have O:=d.grown M (by simp) (λk U=>by cases U;exact zf _);refine⟨_,rfl,⟨_,?_,a.out _ O⟩,O⟩;rw[show(zm c).length=1+c.body.length by simp[zm];omega];exact yk C (zv _)
def nP(qc first:Bool)(vs:κ)(l:zk):κ:=if qc&&(first||l.neg) then vs else xz vs l.args
def jq(qc:Bool)(a:List zk):Nat->κ
 |0=>[]
 |k+1=>match a[k]? with
  |none=>jq qc a k
  |some l=>nP qc (k == 0) (jq qc a k) l
def ez(qc:Bool)(a:List zk)(k:Nat)(b:k<a.length):jq qc a (k+1)=nP qc (k == 0) (jq qc a k) a[k]:=by
 rw[jq,yi b]
def JG(qc first:Bool)(vs:κ)(l:zk):(nP qc first vs l).length<=vs.length+l.args.length:=by
 unfold nP;split;omega;exact nk l.args vs
def F2(qc:Bool)(a:List zk):∀k,k<=a.length->(jq qc a k).length<=xg (a.take k)
 |0,_=>by simp[jq]
 |k+1,d=>by
  rw[ez qc a k (by omega),yP (by omega),LL];have c:=F2 qc a k (by omega);have b:=JG qc (k == 0) (jq qc a k) a[k];omega
def IE(c:zd):jq false (zm c) (zm c).length=ud c:=by
 have a:∀k,k<=c.body.length->jq false (zm c) (k+1)=(c.body.take k).foldl kI (xz [] c.head.args):=by
  intro k;induction k with
  |zero=>intro _;rfl
  |succ k b=>
   intro d;rw[ez _ _ _ (by simp[zm];omega),b (by omega),yP (by omega),jr];rfl
 have:=a c.body.length (zf _);rw[uR] at this;exact this
def IJ(c:zd):jq true (zm c) (zm c).length=zx c:=by
 have a:∀k,k<=c.body.length->jq true (zm c) (k+1)=(c.body.take k).foldl vS []:=by
  intro k;induction k with
  |zero=>intro _;rfl
  |succ k b=>
   intro d;rw[ez _ _ _ (by simp[zm];omega),b (by omega),yP (by omega),jr];simp only[uu,List.foldl_nil,nP,vS,zm,pd];simp
 have:=a c.body.length (zf _);rw[uR] at this;exact this
def EI(w:World)(qc:Bool)(g o:Nat)(c:zd)(ao:Option Addr)(cap:Nat)(S:Option Addr)(B:Nat)(h:f5 w g o c ao cap S B)(hl:c.body.length<=999)(ar:xg (zm c)<=1000)(hz:∀l∈zm c,∀t∈l.args,0<t.size):
  Calls prog 108 #[.pointer (some ⟨g,o,none⟩),.bool qc] w λe C=>∃v,e=.returned v/\R7 w.heap.size C v (jq qc (zm c) (zm c).length)/\μ w C:=by
 obtain⟨i0,hi,ak,ad,aj⟩:=info_parts QN;have av:(zm c).length<=1000:=by simp[zm];omega
 have HZ:=Ry hz;have O:=tN w g o c ao cap S B h (by omega);clear hz;generalize zm c=q at *;go_enter func108,ntmps108;go_wp2_with (go_at_call 68;refine O.mono ?_;rintro e F ⟨lv,rfl,D,R⟩;obtain⟨ax,ap,rfl⟩:=D.qy;clear O)
 go_loopw [5,7] (λv5 v7 wr=>∃k:Nat,k<=q.length/\v7=ι k/\μ F wr/\wr.ownsRow F.heap.size 9 1 v5 (jq qc q k).length ((jq qc q k).map Value.string)) (λ_ i _=>q.length-(intOf i).toNat);exact⟨0,zv _,rfl,zp _ _,yW _ _ _ _⟩;obtain⟨k,hk,rfl,m,b⟩:=hrel;have Q:=m.size;by_cases y:k<q.length
 .obtain⟨gl,aw,am,rfl,G,K,ah,s,ae⟩:=D.cell k y;have E:=zl m G K;have P:=zl m G s;have al:gl<wr.heap.size:=by omega
  have x:=ez qc q k y;have a1:=F2 qc q k (by omega);have N:=rN q k y;rw[yi y] at N;simp only[jC,uL] at N;have X:=Ry (HZ.out _ (zt y));generalize q[k]=a at *;generalize Y:jq qc q k=vs at *;have V:=Ry x;clear x Y K ah;by_cases d:(qc&&((k == 0)||a.neg))=true
  .have W:Hid (jq qc q (k+1)=vs):=by rw[Hid,V.out,nP,d];rfl
   simp only[uG,fu,beq_iff_eq] at d;obtain⟨rfl,d⟩:=d;clear V s;by_cases L:k=0
   .subst L;go_wp2;go_roundw;exact⟨0+1,by omega,by go_num,m,by rw[W.out];exact b⟩;simp[intOf];omega
   have ai:((k:Int) == 0)=false:=by rw[beq_eq_false_iff_ne];omega
   have z:=d.resolve_left L;rw[z] at E;go_wp2;go_roundw;exact⟨k+1,by omega,by go_num,m,by rw[W.out];exact b⟩;simp[intOf];omega
  have W:Hid (jq qc q (k+1)=xz vs a.args):=by rw[Hid,V.out,nP,za d]
  clear V;have M:qc=false∨(qc=true/\((k:Int) == 0)=false/\a.neg=false):=by
   cases qc;exact zh rfl;right;simp only[mQ,fu,beq_iff_eq,not_or,pE] at d;exact⟨rfl,by rw[beq_eq_false_iff_ne];omega,d.2⟩
  clear d;rcases M with rfl|⟨rfl,ai,z⟩
  all_goals
   (try rw[z] at E)
   go_wp2;go_loopw [5,8] (λv5 v8 wj=>∃j:Nat,j<=a.args.length/\v8=ι j/\μ F wj/\wj.ownsRow F.heap.size 9 1 v5 (xz vs (a.args.take j)).length ((xz vs (a.args.take j)).map Value.string)) (λ_ i _=>a.args.length-(intOf i).toNat);exact⟨0,zv _,rfl,m,b⟩;clear E P b m Q al;obtain⟨j,hj,rfl,n,b⟩:=hrel;have aq:=n.size;have P:=zl n G s;have a0:gl<wr.heap.size:=by omega
   by_cases I:j<a.args.length
   .obtain⟨ga,rfl,af,U⟩:=ae.cell j I;have az:=zl n af U;have au:ga<wr.heap.size:=by omega
    have J:=X.out _ (zt I);have x:=CK vs a.args j I;have Z:=nk (a.args.take j) vs;have T:(a.args.take j).length=j:=by simp;omega
    rw[T] at Z;clear U T;generalize a.args[j]=A at *;generalize xz vs (a.args.take j)=H at *;have p:=Ry x;clear x;have u:zQ A=vQ (RA A 0):=rfl;cases hT:vQ (RA A 0)
    .have r:Hid (xz vs (a.args.take (j+1))=H):=by rw[Hid,p.out,DU (by rw[u,hT])]
     clear p u;go_wp2_with (first|(go_at_call 154;refine(wI _ _ J).mono ?_;rintro e C ⟨rfl,f⟩;obtain rfl:=f.symm)|(go_at_call 109;refine(tV _ _ H A b (by omega)).mono ?_;rintro e C ⟨rfl,f⟩;obtain rfl:=f.symm))
     go_roundw;exact⟨j+1,by omega,by go_num,n,by rw[r.out];exact b⟩;simp[intOf];omega
    cases hM:yu A H
    .have r:Hid (xz vs (a.args.take (j+1))=H++[A]):=by rw[Hid,p.out,B8 (by rw[u,hT]) hM]
     clear p u;go_wp2_with (first|(go_at_call 154;refine(wI _ _ J).mono ?_;rintro e C ⟨rfl,f⟩;obtain rfl:=f.symm)|(go_at_call 109;refine(tV _ _ H A b (by omega)).mono ?_;rintro e C ⟨rfl,f⟩;obtain rfl:=f.symm)|(at_builtin;refine kA _ _ _ _ rfl (.tmp 65) (.tmp 74) 30 rfl F.heap.size 9 i0 _ 1 16 underlying30 hi ak ad aj rfl (by decide) _ _ _ rfl b (zp _ _) _ _ rfl (by simp) rfl (by simp[Value.oneCell']) (by omega) (by omega) n.size ?_;intro v' w2 aa ab s ac ay an;clear s ac))
     go_roundw;exact⟨j+1,by omega,by go_num,n.trans ab,by rw[r.out];simpa using aa⟩;simp[intOf];omega
    have r:Hid (xz vs (a.args.take (j+1))=H):=by rw[Hid,p.out,EK hM]
    clear p u;go_wp2_with (first|(go_at_call 154;refine(wI _ _ J).mono ?_;rintro e C ⟨rfl,f⟩;obtain rfl:=f.symm)|(go_at_call 109;refine(tV _ _ H A b (by omega)).mono ?_;rintro e C ⟨rfl,f⟩;obtain rfl:=f.symm))
    go_roundw;exact⟨j+1,by omega,by go_num,n,by rw[r.out];exact b⟩;simp[intOf];omega
   have hE:a.args.take j=a.args:=xk (by omega);rw[hE] at b;clear hE;go_wp2;go_roundw;exact⟨k+1,by omega,by go_num,n,by rw[W.out];exact b⟩;simp[intOf];omega
 have ag:k=q.length:=by omega
 subst ag;go_wp2;go_ret;exact⟨_,rfl,yk b R.size,R5 R m⟩
def jn(x l:zk):Bool:=decide (l.pred=x.pred)&&decide (l.args.length≠x.args.length)
def jT(cs:List zd)(x:zk):Bool:=(cs.flatMap zm).any (jn x)
def Ok(cs:List zd)(k:Nat)(a:k<cs.length):(cs.drop k).flatMap zm=zm cs[k]++(cs.drop (k+1)).flatMap zm:=by rw[xh a,uA]
def MZ(w:World)(pb:Nat)(cv v1 Y:Value)(cs:List zd)(x:zk)(va:Value)(hp:Rz w pb #[cv,v1,Y] 45)(D:Se lo 93 w cv cs)(G:∀c∈cs,vT c)(hl:cs.length<=1000){N:Nat}(hs:R7 N w va x.args):
  Calls prog 110 #[(π pb),.agg #[.bool x.neg,.string x.pred,va]] w λe w'=>e=ε (.bool (jT cs x))/\μ w w':=by
 obtain⟨ao,P,rfl⟩:=D.qy;obtain⟨S,u,rfl⟩:=hs.qy;have M:=Ry G;clear G;go_enter func110,ntmps110;go_wp2;go_loopw [5] (λi wr=>∃k:Nat,k<=cs.length/\i=ι k/\μ w wr/\Rz wr w.heap.size #[.bool x.neg,.string x.pred,.slice S x.args.length u] 90/\Rz wr pb #[.slice ao cs.length P,v1,Y] 45/\Hid (jT cs x=((cs.drop k).flatMap zm).any (jn x))) (λi _=>cs.length-(intOf i).toNat);exact⟨0,zv _,rfl,(by go_grown),Rz.new _ _ _,hp.below (by go_grown),rfl⟩;obtain⟨k,hk,rfl,m,V,C,H⟩:=hrel;obtain⟨J,L⟩:=C.rules;have ac:=m.size;by_cases r:k<cs.length
 .obtain⟨g,ai,aa,ah,X,rfl,K⟩:=D.at k r;obtain⟨am,aq⟩:=M.out _ (zt r);have z:=Ok cs k r;generalize cs[k]=c at *;generalize hR:(cs.drop (k+1)).flatMap zm=rest at *;have HR:=Ry hR;have H1:Hid (jT cs x=(zm c++rest).any (jn x)):=by rw[Hid,H.out,z]
  clear hR H z;have ag:(zm c).length<=1001:=by simp[zm];omega
  go_wp2_with (go_at_call 68;refine(tN _ g (k*4) c _ _ _ _ (by exact K.below m) (by omega)).mono ?_;rintro e w1 ⟨lv,rfl,p,q⟩;obtain⟨af,ad,rfl⟩:=p.qy;have A:=R5 m q;have s:=V.below q;have E:=C.below q)
  generalize U:zm c=n at *;clear U;go_loopw [7] (λi wj=>∃j:Nat,j<=n.length/\i=ι j/\μ w1 wj/\Hid (jT cs x=(n.drop j++rest).any (jn x))) (λi _=>n.length-(intOf i).toNat);exact⟨0,zv _,rfl,zp _ _,H1⟩;clear J L;obtain⟨j,hj,rfl,b,I⟩:=hrel;have Z:=b.size;have o:=s.below b;obtain⟨aj,ak⟩:=o.rules;by_cases F:j<n.length
  .obtain⟨gl,ae,ab,rfl,v,T,t,B,W⟩:=p.cell j F;have ap:=zl b v t;have an:=zl b v B;have al:gl<wr.heap.size:=by omega
   have y:=xh F;clear T t B W;generalize n[j]=a at *;have f:Hid (jT cs x=(jn x a||(n.drop (j+1)++rest).any (jn x))):=by rw[Hid,I.out,y];rfl
   clear y I;by_cases d:a.pred=x.pred
   .have R:=jF d;by_cases l:a.args.length=x.args.length
    .have h:Hid (jT cs x=(n.drop (j+1)++rest).any (jn x)):=by rw[Hid,f.out,jn];simp[l]
     have O:((a.args.length:Int) == (x.args.length:Int))=true:=by rw[beq_iff_eq];omega
     clear f d l;generalize a.args.length=na at *;generalize a.pred=pa at *;go_wp2;go_quiet (fail)
     go_wp2;go_roundw;exact⟨j+1,by omega,by go_num,zI b _,h⟩;simp[intOf];omega
    have h:Hid (jT cs x=true):=by rw[Hid,f.out,jn];simp[d,l]
    have O:((a.args.length:Int) == (x.args.length:Int))=false:=by rw[beq_eq_false_iff_ne];omega
    clear f d l;generalize a.args.length=na at *;generalize a.pred=pa at *;go_wp2;go_quiet (fail)
    go_wp2;go_ret;exact⟨by rw[h.out];rfl,zI (R5 A b) _⟩
   have R:=qb d;have h:Hid (jT cs x=(n.drop (j+1)++rest).any (jn x)):=by rw[Hid,f.out,jn];simp[d]
   clear f d;generalize a.pred=pa at *;go_wp2;go_quiet (fail)
   go_wp2;go_roundw;exact⟨j+1,by omega,by go_num,zI b _,h⟩;simp[intOf];omega
  have Q:Hid (jT cs x=((cs.drop (k+1)).flatMap zm).any (jn x)):=by rw[Hid,I.out,ua (by omega),HR.out];rfl
  clear I;go_wp2;go_roundw;exact⟨k+1,by omega,by go_num,R5 A b,o,E.below b,Q⟩;simp[intOf];omega
 have Q:Hid (jT cs x=false):=by rw[Hid,H.out,ua (by omega)];rfl
 clear H;go_wp2;go_ret;exact⟨by rw[Q.out];rfl,m⟩
def mH(w:World)(pb:Nat)(c0 d f:Value)(l:κ)(n:ByteArray)(o:Rz w pb #[c0,d,f] 45)(hs:R7 lo w d l)(v:l.length<=1000):
  Calls prog 111 #[(π pb),.string n] w λe p=>e=ε (ι (fq l n))/\p=w:=by
 obtain⟨u,r⟩:=o.rules;obtain⟨t,h,rfl⟩:=hs.qy;go_enter func111,ntmps111;go_wp2;go_loop [5] (λi=>∃k:Nat,k<=l.length/\i=ι k/\Hid (y5 l n=(y5 (l.drop k) n).map (·+k))) (λi=>l.length-(intOf i).toNat);exact⟨0,zv _,rfl,by simp[Hid]⟩;obtain⟨k,q,rfl,H⟩:=hrel;by_cases a:k<l.length
 .obtain⟨g,rfl,s,m⟩:=hs.cell k a;by_cases c:l[k]=n
  .have j:=jF c;have b:Hid (fq l n=(k:Int)):=by unfold Hid fq;rw[H.out,il a c];simp
   go_wp2;go_ret;exact⟨by rw[b.out];rfl,rfl⟩
  have j:=qb c;have b:Hid (y5 l n=(y5 (l.drop (k+1)) n).map (·+(k+1))):=by
   rw[Hid,H.out,oK a c];cases y5 (l.drop (k+1)) n<;>simp;omega
  go_wp2;go_round;exact⟨k+1,by omega,by go_num,b⟩;simp[intOf];omega
 have b:Hid (fq l n=-1):=by unfold Hid fq;rw[H.out,ua (by omega)];rfl
 go_wp2;go_ret;exact⟨by rw[b.out];rfl,rfl⟩
def tc(c:zd):Bool:=decide (6<c.body.length)||decide (5<(ud c).length)
def mE(l:zk):Bool:=decide (3<l.args.length)
def fQ(c:zd):Bool:=tc c||(zm c).any mE
def m9(c:zd):Bool:=(ud c).all λv=>yu v (zx c)
def nc(cs:List zd)(c:zd):Bool:=(zm c).any (jT cs)
def jI(cs:List zd):Int:=if cs.any fQ then 4 else if cs.any (nc cs) then 5 else if cs.all m9 then 0 else 6
def wU{α:Type}(l:List α)(p:α->Bool)(k:Nat)(a:k<l.length):(l.take (k+1)).any p=((l.take k).any p||p l[k]):=by rw[yP a,List.any_append];simp
def EX{α:Type}(l:List α)(p:α->Bool)(k:Nat)(a:k<l.length):(l.take (k+1)).all p=((l.take k).all p&&p l[k]):=by rw[yP a,List.all_append];simp
def E4(w:World)(pb:Nat)(cv v1 v2:Value)(cs:List zd)(hp:Rz w pb #[cv,v1,v2] 45)(F:Se lo 93 w cv cs)(M:∀c∈cs,vT c/\c.body.length<=999/\xg (zm c)<=1000/\∀l∈zm c,∀t∈l.args,0<t.size)(hl:cs.length<=1000):
  Calls prog 67 #[(π pb)] w λe w'=>e=ε (ι (jI cs))/\μ w w':=by
 obtain⟨ao,ar,rfl⟩:=F.qy;have Z:=Ry M;have az:=Ry λc hc=>(M c hc).1;clear M;go_enter func67,ntmps67;go_wp2;go_loopw [3,4,5,6] (λv3 v4 v5 v6 wr=>∃(k:Nat) (m a s:Bool),k<=cs.length/\v6=ι k/\v3=.bool m/\v4=.bool a/\v5=.bool s/\μ w wr/\Rz wr pb #[.slice ao cs.length ar,v1,v2] 45/\Hid (m=(cs.take k).any fQ)/\Hid (a=(cs.take k).any (nc cs))/\Hid (s=(cs.take k).all m9)) (λ_ _ _ i _=>cs.length-(intOf i).toNat);exact⟨0,false,false,true,zv _,rfl,rfl,rfl,rfl,zp _ _,hp,rfl,rfl,rfl⟩;obtain⟨k,m,a,s,hk,rfl,rfl,rfl,rfl,f,S,HM,HA,HS⟩:=hrel;obtain⟨aX,aY⟩:=S.rules;have aE:=f.size;by_cases n:k<cs.length
 .obtain⟨g,aJ,a7,aZ,a9,rfl,C⟩:=F.at k n;obtain⟨⟨bb,aV⟩,aR,P,R⟩:=Z.out _ (zt n);have ap:=Ry (wU cs fQ k n);have aw:=Ry (wU cs (nc cs) k n);have a0:=Ry (EX cs m9 k n);generalize cs[k]=c at *;have y:=Ry P;have ah:=Ry R;have aL:(zx c).length<=1000:=by have:=th c.body [];unfold zx;simp at this;omega
  have aK:(ud c).length<=1000:=by have h1:=Dm c.body (xz [] c.head.args);have h2:=nk c.head.args [];unfold ud;simp at h2;omega
  have aG:(zm c).length<=1000:=by simp[zm];omega
  clear P R;obtain⟨A,X⟩:∃A,Hid (A=((cs.take k).any fQ||tc c)):=⟨_,rfl⟩;have HW:(m=true/\Hid (A=true))∨(m=false/\6<c.body.length/\Hid (A=true))∨(m=false/\¬6<c.body.length/\5<(ud c).length/\Hid (A=true))∨(m=false/\¬6<c.body.length/\¬5<(ud c).length/\Hid (A=false)):=by
   simp only[Hid,X.out,←HM.out,tc];cases m<;>by_cases h6:6<c.body.length<;>by_cases h5:5<(ud c).length<;>simp[h6,h5]
  rcases HW with⟨rfl,r⟩|⟨rfl,h6,r⟩|⟨rfl,h6,h5,r⟩|⟨rfl,h6,h5,r⟩
  all_goals
   go_wp2_with (first|(go_at_call 108;have O:=ag;refine(EI _ true g (k*4) c _ _ _ _ (by exact C.below O) (by omega) y.out ah.out).mono ?_;rintro e w2 ⟨ba,rfl,N,I⟩;rw[IJ] at N;obtain⟨bc,a6,rfl⟩:=N.qy;have D:=R5 ag I;have aa:=L.below I;have o:=C.below D;have aI:=o.c3;have aB:=o.lt;have aU:=D.size;have ae:=(S.below Y).below I;clear O)|(go_at_call 108;have O:=f;refine(EI _ false g (k*4) c _ _ _ _ (by exact C.below O) (by omega) y.out ah.out).mono ?_;rintro e w1 ⟨aS,rfl,L,Y⟩;rw[IE] at L;obtain⟨aQ,aA,rfl⟩:=L.qy;have ag:=R5 f Y;clear f O))
   go_loopw [5,10] (λv5 a4 wj=>∃(j:Nat) (E:Bool),j<=(ud c).length/\a4=ι j/\v5=.bool E/\μ w2 wj/\Hid (E=(s&&((ud c).take j).all λv=>yu v (zx c)))) (λ_ i _=>(ud c).length-(intOf i).toNat);exact⟨0,s,zv _,rfl,rfl,zp _ _,(by simp[Hid])⟩;obtain⟨j,E,hj,rfl,rfl,d,u⟩:=hrel;have aD:=d.size;by_cases ac:j<(ud c).length
   .obtain⟨ga,rfl,av,af⟩:=aa.cell j ac;have aW:=zl d av af;have aF:ga<wr.heap.size:=by omega
    have h:=EX (ud c) (λv=>yu v (zx c)) j ac;clear af;generalize (ud c)[j]=x1 at *;have aq:Hid ((s&&((ud c).take (j+1)).all λv=>yu v (zx c))=(E&&yu x1 (zx c))):=by rw[Hid,h,u.out,Bool.and_assoc]
    clear h u;cases E
    all_goals
     go_wp2_with (go_at_call 109;refine(tV _ _ (zx c) x1 (by exact N.below d) (by omega)).mono ?_;rintro e w' ⟨rfl,ay⟩;obtain rfl:=ay.symm)
     go_roundw;exact⟨j+1,_,by omega,by go_num,rfl,d,(by rw[Hid,aq.out];rfl)⟩;simp[intOf];omega
   have al:(ud c).take j=ud c:=xk (by omega);have a2:Hid (E=(cs.take (k+1)).all m9):=by rw[Hid,u.out,al,a0.out,HS.out];rfl
   clear u;go_wp2_with (go_at_call 68;refine(tN _ g (k*4) c _ _ _ _ (by exact o.below d) (by omega)).mono ?_;rintro e w3 ⟨lv,rfl,B,T⟩;obtain⟨aM,aC,rfl⟩:=B.qy;have U:=R5 D (R5 d T);have z:=(ae.below d).below T)
   go_loopw [3,4,13] (λv3 v4 aj wq=>∃(q:Nat) (H G:Bool),q<=(zm c).length/\aj=ι q/\v3=.bool H/\v4=.bool G/\μ w3 wq/\Hid (H=(A||((zm c).take q).any mE))/\Hid (G=(a||((zm c).take q).any (jT cs)))) (λ_ _ i _=>(zm c).length-(intOf i).toNat);exact⟨0,_,a,zv _,rfl,rfl,rfl,zp _ _,(by simp[Hid,r.out]<;>omega),(by simp[Hid])⟩;obtain⟨q,H,G,O,rfl,rfl,rfl,b,p,x⟩:=hrel;have a5:=b.size;by_cases K:q<(zm c).length
   .obtain⟨gl,aP,a8,rfl,J,W,Q,ai,au⟩:=B.cell q K;have aH:=zl b J W;have aO:=zl b J Q;have aT:=zl b J ai;have aN:gl<wr.heap.size:=by omega
    have h:=wU (zm c) mE q K;have V:=wU (zm c) (jT cs) q K;clear W Q ai;generalize (zm c)[q]=a1 at *;have a3:Hid ((A||((zm c).take (q+1)).any mE)=(H||mE a1)):=by rw[Hid,h,p.out,Bool.or_assoc]
    have ax:Hid ((a||((zm c).take (q+1)).any (jT cs))=(G||jT cs a1)):=by rw[Hid,V,x.out,Bool.or_assoc]
    clear h V p x;cases H
    all_goals cases G
    all_goals
     go_wp2_with (go_at_call 110;refine(MZ _ pb _ _ _ cs a1 _ (by exact z.below b) (by exact F.below (R5 U b)) az.out hl (by exact au.below b)).mono ?_;rintro e w5 ⟨rfl,an⟩)
     go_roundw;exact⟨q+1,_,_,by omega,by go_num,rfl,rfl,R5 b an,(by rw[Hid,a3.out];first|rfl|(simp[mE];done)|(simp[mE];omega)),(by rw[Hid,ax.out];rfl)⟩;simp[intOf];omega
   have ab:(zm c).take q=zm c:=xk (by omega);have ak:Hid (H=(cs.take (k+1)).any fQ):=by rw[Hid,p.out,ab,ap.out,X.out,fQ,Bool.or_assoc]
   have am:Hid (G=(cs.take (k+1)).any (nc cs)):=by rw[Hid,x.out,ab,aw.out,HA.out];rfl
   clear p x;go_wp2;go_roundw;exact⟨k+1,H,G,E,by omega,by go_num,rfl,rfl,rfl,R5 U b,z.below b,ak,am,a2⟩;simp[intOf];omega
 have ad:cs.take k=cs:=xk (by omega);rw[ad] at HM HA HS;have HW:Hid (jI cs=if m then 4 else if a then 5 else if s then 0 else 6):=by unfold Hid jI;rw[←HM.out,←HA.out,←HS.out]
 clear HM HA HS ad;cases m
 all_goals cases a
 all_goals cases s
 all_goals
  go_wp2;go_ret;exact⟨by rw[HW.out];rfl,f⟩
end
def Qv(c:zd):fQ c=yM c:=by
 unfold fQ tc yM zm mE;rw[List.any_cons];generalize decide (6<c.body.length)=a;generalize decide (5<(ud c).length)=b;generalize decide (3<c.head.args.length)=d;generalize (c.body.any λl=>decide (3<l.args.length))=e;cases a<;>cases b<;>cases d<;>cases e<;>rfl
def Hy(c:zd):m9 c=xt c:=by
 rw[Bool.eq_iff_iff];unfold m9 xt;rw[fL,uG,mG,fL];constructor;intro h;have f:=λv (a:v∈ud c)=>vH.1 (h v a);refine⟨λt d a=>f t (tD.2 ⟨a,zh d⟩),λl b=>?_⟩;cases e:l.neg;rfl;rw[mX,pk,mG];exact λt d a=>f t (tD.2 ⟨a,ze ⟨l,b,d⟩⟩);rintro⟨i,j⟩ v a;rw[vH];obtain⟨g,h|⟨l,b,h⟩⟩:=tD.1 a;exact i v h g;cases e:l.neg;exact gY.2 ⟨g,l,b,e,h⟩;have:=j l b;rw[e,mX,pk,mG] at this;exact this v h g
def OE(cs:List zd):cs.any fQ=cs.any yM:=by rw[show fQ=yM from funext Qv]
def GV(cs:List zd):cs.all m9=cs.all xt:=by rw[show m9=xt from funext Hy]
section
variable {t:List zg}
def SH.stop{g:List zk}{l:zk}(h:SH t g)(b:vz t l=none):∃d∈g,jn l d=true:=by
 unfold vz at b;split at b;rename_i e k;obtain⟨i,j⟩:=pi k;split at b;cases b;rename_i f;obtain⟨d,a,c⟩:=(h.names e.name).1 (zE.2 ⟨e,i,rfl⟩);refine⟨d,a,?_⟩;unfold jn;rw[uG,decide_eq_true_eq,decide_eq_true_eq];refine⟨by rw[c,j],?_⟩;rw[h.ji e i d a c];exact f;cases b
def Ab:∀(a done:List zk) (t:List zg),SH t done->match a.foldl uv (some t) with
  |some f=>SH f (done++a)
  |none=>∃x∈done++a,∃y∈done++a,jn x y=true
 |[],done,t,h=>by simpa using h
 |l::a,done,t,h=>by
  rw[uu];cases b:vz t l with
  |none=>
   rw[show uv (some t) l=none from b,pM];obtain⟨e,c,g⟩:=h.stop b;exact⟨l,by simp,e,by simp[c],g⟩
  |some d=>
   rw[show uv (some t) l=some d from b];have:=Ab a (done++[l]) d (h.step b);rwa [kz] at this
def Qc{b:List zk}(h:SH t b){x y:zk}(d:x∈b)(g:y∈b):jn x y=false:=by
 obtain⟨e,c,a⟩:=zE.1 ((h.names x.pred).2 ⟨x,d,rfl⟩);unfold jn;cases f:decide (y.pred=x.pred);rfl;rw[decide_eq_true_eq] at f;rw[mQ,decide_eq_false_iff_not,h.ji e c x d a.symm,h.ji e c y g (f.trans a.symm)];simp
def Ev(cs:List zd):cs.any (nc cs)=true↔∃x∈cs.flatMap zm,∃y∈cs.flatMap zm,jn x y=true:=by
 simp only[nc,jT,gi,uP];constructor;rintro⟨c,b,x,d,y,a,h⟩;exact⟨x,⟨c,b,d⟩,y,a,h⟩;rintro⟨x,⟨c,b,d⟩,y,a,h⟩;exact⟨c,b,x,d,y,a,h⟩
def OD{cs:List zd}(h:uq cs=none):cs.any (nc cs)=true:=by
 have:=Ab (cs.flatMap zm) [] [] tq;unfold uq at h;rw[h] at this;rw[Ev];simpa using this
def tA{cs:List zd}(h:uq cs=some t):cs.any (nc cs)=false/\SH t (cs.flatMap zm):=by
 have:=Ab (cs.flatMap zm) [] [] tq;unfold uq at h;rw[h] at this;simp only[po] at this;refine⟨?_,this⟩;rw[←pE,Ev];rintro⟨x,c,y,b,a⟩;rw[Qc this c b] at a;cases a
end
section
open Go.Proofs.Tryz Go.RowKit
variable {lo:Nat}{l out:κ}{i:Nat}
def dW(out:κ)(y:ByteArray):Bool:=match out.getLast? with
 |none=>true
 |some z=>RX z y
def wu(o:κ)(z y:ByteArray):dW (o++[z]) y=RX z y:=by simp[dW]
def dB(l out:κ)(i:Nat)(k:Int):Prop:=
 (k=-1/\∀j (a:j<l.length),j<i->dW out l[j]=false)∨∃(q:Nat) (b:q<l.length),k=q/\q<i/\dW out l[q]=true/\∀j (a:j<l.length),j<i->dW out l[j]=true->RX l[j] l[q]=false
def Ni(l out:κ):dB l out 0 (-1):=zh ⟨rfl,λ_ _ h=>by omega⟩
def GU{k:Int}(h:dB l out i k)(o:i<l.length)(f:dW out l[i]=false):dB l out (i+1) k:=by
 rcases h with⟨b,e⟩|⟨q,g,b,e,n,m⟩
 refine zh ⟨b,λj c d=>?_⟩;rcases dI j i with h|h;exact e j c h;obtain rfl:j=i:=by omega
 exact f;refine ze ⟨q,g,b,by omega,n,λj c d a=>?_⟩;rcases dI j i with h|h;exact m j c h a;obtain rfl:j=i:=by omega
 rw[f] at a;cases a
def DJ(h:dB l out i (-1))(b:i<l.length)(d:dW out l[i]=true):dB l out (i+1) i:=by
 rcases h with⟨_,c⟩|⟨q,_,g,_⟩
 refine ze ⟨i,b,rfl,by omega,d,λj e f a=>?_⟩;rcases dI j i with h|h;rw[c j e h] at a;cases a;obtain rfl:j=i:=by omega
 exact RF _;omega
def DF{q:Nat}(h:dB l out i q)(f:i<l.length)(p:q<l.length)(m:dW out l[i]=true)(k:RX l[i] l[q]=true):dB l out (i+1) i:=by
 rcases h with⟨e,_⟩|⟨b,g,e,s,r,c⟩
 omega;obtain rfl:q=b:=by omega
 refine ze ⟨i,f,rfl,by omega,m,λj n o a=>?_⟩;rcases dI j i with h|h;cases d:RX l[j] l[i];rfl;have:=lt_trans d k;rw[c j n h a] at this;cases this;obtain rfl:j=i:=by omega
 exact RF _
def Dz{q:Nat}(h:dB l out i q)(o:i<l.length)(b:q<l.length)(g:RX l[i] l[q]=false):dB l out (i+1) q:=by
 rcases h with⟨e,_⟩|⟨k,f,e,p,d,c⟩
 omega;obtain rfl:q=k:=by omega
 refine ze ⟨q,b,rfl,by omega,d,λj m n a=>?_⟩;rcases dI j i with h|h;exact c j m h a;obtain rfl:j=i:=by omega
 exact g
structure SN (l out:κ):Prop where
 rising:yz out
 sub:∀x∈out,x∈l
 left:∀y∈l,y∉out->∀z∈out,RX z y=true
 room:out.length+lq l out<=l.length
def GX(l:κ):SN l []:=⟨List.Pairwise.nil,λ_ h=>(by cases h),λ_ _ _ _ h=>(by cases h),by rw[C2];simp⟩
def Jt{y:ByteArray}(b:yz out)(h:dW out y=true):∀z∈out,RX z y=true:=by
 intro z a;rcases ww out with e|⟨o,x,e⟩;subst e;cases a;rw[sS] at e;subst e;rw[wu] at h;rcases zW.1 a with a|a;exact lt_trans ((lH.1 b).2.2 z a x (by simp)) h;simp at a;subst a;exact h
def Bn{y:ByteArray}(h:∀z∈out,RX z y=true):dW out y=true:=by
 rcases ww out with e|⟨o,x,e⟩;subst e;rfl;rw[sS] at e;subst e;rw[wu];exact h x (by simp)
def Po{q:Nat}(h:SN l out)(t:q<l.length)(w:dB l out l.length q):SN l (out++[l[q]])/\lq l (out++[l[q]])<lq l out:=by
 rcases w with⟨B,_⟩|⟨A,E,B,_,D,C⟩
 omega;obtain rfl:q=A:=by omega
 have c:=Jt h.rising D;have k:l[q]∉out:=λo=>by have:=c _ o;rw[RF] at this;cases this
 have p:=Qx (zt t) k;refine⟨⟨?_,?_,?_,?_⟩,p⟩;exact lH.2 ⟨h.rising,List.pairwise_singleton _ _,λa v b u=>by simp at u;subst u;exact c a v⟩;intro x d;rcases zW.1 d with d|d;exact h.sub x d;simp at d;subst d;exact zt t;intro y n f z e;have g:y∉out:=λo=>f (zW.2 (zh o));rcases zW.1 e with e|e;exact h.left y n g z e;simp at e;subst e;obtain⟨j,s,rfl⟩:=uO n;have r:=Bn (h.left _ n g);have m:=C j s s r;cases d:RX l[q] l[j];exact z9 (zW.2 (ze (by simp[sw m d]))) f;rfl;have:=h.room;simp;omega
def MD(h:SN l out)(d:dB l out l.length (-1)):∀x,x∈out↔x∈l:=by
 intro x;refine⟨h.sub x,λa=>?_⟩;rcases d with⟨_,e⟩|⟨q,_,f,_⟩
 false_or_by_contra
 rename_i c;obtain⟨j,b,rfl⟩:=uO a;have:=Bn (h.left _ a c);rw[e j b b] at this;cases this;omega
def Ez(w:World)(v:Value)(l:κ)(hs:R7 lo w v l)(hl:l.length<=1000):
  Calls prog 69 #[v] w λe w'=>∃W r,e=.returned W/\R7 w.heap.size w' W r/\yz r/\(∀x,x∈r↔x∈l)/\r.length<=l.length/\μ w w':=by
 obtain⟨i0,hi,ad,aa,T⟩:=info_parts QN;obtain⟨ao,aq,rfl⟩:=hs.qy;go_enter func69,ntmps69;go_wp2;go_loopg [3] (l.length) (λn v3 wr=>∃out:κ,Hid (SN l out)/\lq l out<=n/\μ w wr/\wr.ownsRow w.heap.size 9 1 v3 out.length (out.map Value.string))
 case atStart=>exact⟨[],GX l,by rw[C2];omega,zp _ _,yW _ _ _ _⟩
 obtain⟨out,O,ap,ab,E⟩:=hrel;obtain⟨am,al,rfl⟩:=zq E;have H:=O.out.room;go_wp2;go_loopw [4,5] (λv4 v5 wj=>∃(i:Nat) (G:Int),i<=l.length/\v5=ι i/\v4=ι G/\μ wr wj/\Hid (dB l out i G)/\Hid (G=-1∨∃(q:Nat) (_:q<l.length),G=q)) (λ_ i _=>l.length-(intOf i).toNat)
 case atStart=>exact⟨0,-1,zv _,rfl,rfl,zp _ _,Ni l out,zh rfl⟩
 obtain⟨i,G,aj,rfl,rfl,a,d,u⟩:=hrel;have p:=R5 ab a;have I:=p.size;have s:=zB E a;by_cases b:i<l.length
 .obtain⟨g,rfl,hg,M⟩:=hs.cell i b;have ax:=zl p hg M;have ag:g<wr.heap.size:=by omega
  clear M;rcases ww out with e|⟨o,z,e⟩
  .subst e;have c:dW [] l[i]=true:=rfl;rcases u.out with B|⟨q,A,C⟩
   .subst B;have t:=Ry (DJ d.out b c);clear d u c;generalize l[i]=x at *;go_wp2;go_quiet (fail)
    go_wp2;go_roundw;exact⟨i+1,(i:Int),by omega,by go_num,rfl,zI a _,t,ze ⟨i,b,rfl⟩⟩;simp[intOf];omega
   subst C;obtain⟨X,D,m,k⟩:=hs.cell q A;simp at D;subst D;have K:=zl p m k;have P:decide ((q:Int)<0)=false:=by rw[decide_eq_false_iff_not];omega
   clear k;cases f:RX l[i] l[q]
   .have t:=Ry (Dz d.out b A f);unfold RX at f;clear d u c;generalize l[i]=x at *;generalize l[q]=y at *;go_wp2;go_quiet (fail)
    go_wp2;go_roundw;exact⟨i+1,(q:Int),by omega,by go_num,rfl,zI a _,t,ze ⟨q,A,rfl⟩⟩;simp[intOf];omega
   have t:=Ry (DF d.out b A c f);unfold RX at f;clear d u c;generalize l[i]=x at *;generalize l[q]=y at *;go_wp2;go_quiet (fail)
   go_wp2;go_roundw;exact⟨i+1,(i:Int),by omega,by go_num,rfl,zI a _,t,ze ⟨i,b,rfl⟩⟩;simp[intOf];omega
  rw[sS] at e;subst e;obtain⟨go,ae,L,_,R,F⟩:=yw s (by simp);simp at L;obtain⟨rfl,_⟩:=L;have aw:=F o.length (.string z) (by simp);have Q:((o.length:Int)+1 == 0)=false:=by rw[beq_eq_false_iff_ne];omega
  have ah:o.length<o.length+1:=by omega
  have ai:=R;have an:o.length<=1000:=by simp at H;omega
  have av:IntKind.i64.wrap (o.length:Int)=(o.length:Int):=IntWalk.i64_in _ (by omega);clear F;cases j:RX z l[i]
  .have t:=Ry (GU d.out b (by rw[wu];exact j));cases N:Op.bytesLess l[i].toList z.toList
   .have Y:=jF (sw N j);clear d j;generalize l[i]=x at *;go_wp2;go_quiet (fail)
    go_wp2;go_roundw;exact⟨i+1,G,by omega,by go_num,rfl,zI a _,t,u⟩;simp[intOf];omega
   clear d j;generalize l[i]=x at *;go_wp2;go_quiet (fail)
   go_wp2;go_roundw;exact⟨i+1,G,by omega,by go_num,rfl,zI a _,t,u⟩;simp[intOf];omega
  have c:dW (o++[z]) l[i]=true:=by rw[wu];exact j
  have N:Op.bytesLess l[i].toList z.toList=false:=Ij j;have Y:(l[i].toList == z.toList)=false:=qb (λh=>by rw[h,RF] at j;cases j);clear j;rcases u.out with B|⟨q,A,C⟩
  .subst B;have t:=Ry (DJ d.out b c);clear d u c;generalize l[i]=x at *;go_wp2;go_quiet (fail)
   go_wp2;go_roundw;exact⟨i+1,(i:Int),by omega,by go_num,rfl,zI a _,t,ze ⟨i,b,rfl⟩⟩;simp[intOf];omega
  subst C;obtain⟨X,D,m,k⟩:=hs.cell q A;simp at D;subst D;have K:=zl p m k;have P:decide ((q:Int)<0)=false:=by rw[decide_eq_false_iff_not];omega
  clear k;cases f:RX l[i] l[q]
  .have t:=Ry (Dz d.out b A f);unfold RX at f;clear d u c;generalize l[i]=x at *;generalize l[q]=y at *;go_wp2;go_quiet (fail)
   go_wp2;go_roundw;exact⟨i+1,(q:Int),by omega,by go_num,rfl,zI a _,t,ze ⟨q,A,rfl⟩⟩;simp[intOf];omega
  have t:=Ry (DF d.out b A c f);unfold RX at f;clear d u c;generalize l[i]=x at *;generalize l[q]=y at *;go_wp2;go_quiet (fail)
  go_wp2;go_roundw;exact⟨i+1,(i:Int),by omega,by go_num,rfl,zI a _,t,ze ⟨i,b,rfl⟩⟩;simp[intOf];omega
 have S:i=l.length:=by omega
 subst S;rcases u.out with B|⟨q,A,C⟩
 .subst B;have HD:=Ry (MD O.out d.out);clear d u;go_wp2;go_ret;exact⟨_,out,rfl,s,O.out.rising,HD.out,by omega,p⟩
 subst C;obtain⟨X,rfl,m,k⟩:=hs.cell q A;have K:=zl p m k;have ag:X<wr.heap.size:=by omega
 obtain⟨J,ar⟩:=Po O.out A d.out;have Z:=Ry J;clear d u k J;generalize l[q]=y at *;go_wp2_with (at_builtin;refine kA _ _ _ _ rfl (.tmp 47) (.tmp 52) 30 rfl w.heap.size 9 i0 _ 1 16 underlying30 hi ad aa T rfl (by decide) _ _ _ rfl s (zp _ _) _ _ rfl (by simp) rfl (by simp[Value.oneCell']) (by omega) (by omega) I ?_;intro W w2 U V ac af au ak;clear ac af)
 go_roundg (lq l (out++[y]))
 case measure=>omega
 exact⟨out++[y],Z,zf _,p.trans V,by simpa using U⟩
end
section
variable {ps:κ}{sv:List Nat}{cs:List zd}
def vB(ps:κ)(sv:List Nat)(n:ByteArray):Nat:=match y5 ps n with
 |some k=>sv.getD k 0
 |none=>0
def sU:∀{ps:κ} {n:ByteArray},n∈ps->∃k,y5 ps n=some k
 |[],_,h=>by cases h
 |y::r,n,h=>by
  unfold y5;by_cases e:y=n
  .exact⟨0,by rw[zb e]⟩
  .rw[za e];rcases zy.1 h with h|h
   .exact z9 h.symm e
   .obtain⟨k,a⟩:=sU h;exact⟨k+1,by rw[a];rfl⟩
def wh{n:ByteArray}{k:Nat}(h:y5 ps n=some k)(a:k<sv.length):vB ps sv n=sv[k]:=by
 unfold vB;rw[h];simp[List.getD_eq_getElem?_getD,a]
def Nq{m:ByteArray}{k:Nat}(h:y5 ps m=some k)(b:k<sv.length)(s:Nat)(n:ByteArray):vB ps (sv.set k s) n=if n=m then s else vB ps sv n:=by
 by_cases a:n=m;subst a;rw[zb rfl,wh h (by simpa using b)];simp;rw[za a];unfold vB;rcases e:y5 ps n with _|j;rfl;have f:k≠j:=by
  rintro rfl;obtain⟨i,d⟩:=fZ h;obtain⟨g,c⟩:=fZ e;exact a (c.symm.trans d)
 simp[List.getD_eq_getElem?_getD,f]
def Hi(ps:κ)(k:Nat)(n:ByteArray):vB ps (List.replicate k 0) n=0:=by
 unfold vB;split;simp[List.getD_eq_getElem?_getD,List.getElem?_replicate];split<;>rfl
 rfl
def Ty(cs:List zd)(ps:κ)(sv:List Nat):Prop:=∀f,S2 cs f->∀n,vB ps sv n<=f n
def N8(cs:List zd)(ps:κ)(k:Nat):Ty cs ps (List.replicate k 0):=λf _ n=>by rw[Hi];omega
def Hr(h:Ty cs ps sv){c:zd}(i:c∈cs){l:zk}(g:l∈c.body){k:Nat}(d:y5 ps c.head.pred=some k)(b:k<sv.length):Ty cs ps (sv.set k (vB ps sv l.pred+up l)):=by
 intro f a n;rw[Nq d b];split;rename_i e;have:=a c i l g;have:=h f a l.pred;rw[e];omega;exact h f a n
def Kp(h:Ty cs ps sv)(a:∀c∈cs,∀l∈zm c,l.pred∈ps){c:zd}(d:c∈cs){l:zk}(i:l∈c.body)(j:ps.length<=vB ps sv l.pred+up l):¬∃f,S2 cs f:=by
 rintro⟨g,e⟩;obtain⟨f,b⟩:=FQ e;have m:=A6 b a (a c d c.head (by simp[zm]));have n:=b.1 c d l i;have k:=h f b.1 l.pred;omega
def S9(cs:List zd)(ps:κ)(sv:List Nat)(i:Nat):Prop:=∀c∈cs.take i,∀l∈c.body,vB ps sv l.pred+up l<=vB ps sv c.head.pred
def mV(c:zd)(ps:κ)(sv:List Nat)(k:Nat):Prop:=∀l∈c.body.take k,vB ps sv l.pred+up l<=vB ps sv c.head.pred
def OM(cs:List zd)(ps:κ)(sv:List Nat):S9 cs ps sv 0:=λc a=>by simp at a
def NA(c:zd)(ps:κ)(sv:List Nat):mV c ps sv 0:=λl a=>by simp at a
def KH{c:zd}{k:Nat}(h:mV c ps sv k)(d:k<c.body.length)(b:vB ps sv c.body[k].pred+up c.body[k]<=vB ps sv c.head.pred):mV c ps sv (k+1):=by
 intro l a;rw[yP d,zW] at a;rcases a with a|a;exact h l a;simp at a;subst a;exact b
def GA{i:Nat}(h:S9 cs ps sv i)(e:i<cs.length)(d:mV cs[i] ps sv cs[i].body.length):S9 cs ps sv (i+1):=by
 intro c a;rw[yP e,zW] at a;rcases a with a|a;exact h c a;simp at a;subst a;intro l b;exact d l (by rw[xk (zf _)];exact b)
def Ig(h:S9 cs ps sv cs.length):S2 cs (vB ps sv):=λc a=>h c (by rw[xk (zf _)];exact a)
def Jg(a:Ty cs ps sv)(h:S9 cs ps sv cs.length):Sj cs (vB ps sv):=⟨Ig h,a⟩
def Ee:∀(sv:List Nat) (k s:Nat) (b:k<sv.length),(sv.set k s).sum+sv[k]=sv.sum+s
 |a::r,0,s,_=>by simp;omega
 |a::r,k+1,s,b=>by
  have:=Ee r k s (by simpa using b);simp;omega
def CB:∀(sv:List Nat) (M:Nat),(∀s∈sv,s<=M)->sv.sum<=sv.length*M
 |[],M,_=>by simp
 |a::r,M,h=>by
  have d:=CB r M λs b=>h s (by simp[b]);have c:=h a (by simp);simp only[vN,xr,lm,Nat.one_mul];omega
def Jl{f g:ByteArray->Nat}(b:Sj cs f)(a:Sj cs g)(n:ByteArray):f n=g n:=Nat.le_antisymm (b.2 g a.1 n) (a.2 f b.1 n)
end
section
variable {ps:κ}{t:List zg}{cs:List zd}
def Dw(h:yz ps){i j:Nat}(c:i<ps.length)(b:j<ps.length)(e:ps[i]=ps[j]):i=j:=by
 unfold yz at h;rw[nT] at h;rcases pg i j with a|a|a;have:=h i j c b a;rw[e,RF] at this;cases this;exact a;have:=h j i b c a;rw[e,RF] at this;cases this
def Oz{sv:List Nat}(h:yz ps)(e:sv.length=ps.length){k:Nat}(a:k<ps.length):vB ps sv ps[k]=sv[k]:=by
 obtain⟨j,b⟩:=sU (zt a);obtain⟨c,d⟩:=fZ b;have:=Dw h c a d;subst this;exact wh b (by omega)
def L7(h:yz (R4 t)){k:Nat}(a:k<t.length):val t t[k].name=t[k].qh:=by
 unfold val;rcases b:zU t t[k].name with _|e;exact z9 rfl (nJ h b t[k] (zt a));obtain⟨f,c,d⟩:=jj b;have g:=Dw h (by simpa [R4] using f) (by simpa [R4] using a) (by simp[R4,c,d]);simp only;rw[←c];congr 1;congr 1
def tx(h:SH t (cs.flatMap zm)):kw t cs:=by
 intro c g l f;rcases d:zU t l.pred with _|e;obtain⟨e,b,a⟩:=zE.1 ((h.names l.pred).2 ⟨l,uP.2 ⟨c,g,f⟩,rfl⟩);exact z9 a (nJ h.rise d e b);rfl
def Di(h:∀e∈t,e.qh<=0)(n:ByteArray):val t n=0:=by
 unfold val;split;rename_i e a;have:=h e (pi a).1;omega;rfl
inductive fh (s:ByteArray):Except Int (List zd×κ×List Nat)->Prop
 |long:500<s.size->fh s (.error 1)
 |lex:¬500<s.size->xw s.size s=none->fh s (.error 2)
 |parse {l:κ}:¬500<s.size->xw s.size s=some l->vm l=none->fh s (.error 3)
 |wrong {l:κ} {cs:List zd}:¬500<s.size->xw s.size s=some l->vm l=some cs->jI cs≠0->fh s (.error (jI cs))
 |strata {l:κ} {cs:List zd}:¬500<s.size->xw s.size s=some l->vm l=some cs->jI cs=0->(¬∃f,S2 cs f)->fh s (.error 7)
 |ok {l:κ} {cs:List zd} {ps:κ} {sv:List Nat}:¬500<s.size->xw s.size s=some l->vm l=some cs->jI cs=0->yz ps->(∀n,n∈ps↔∃x∈cs.flatMap zm,x.pred=n)->sv.length=ps.length->Sj cs (vB ps sv)->fh s (.ok (cs,ps,sv))
def e8:Except Int (List zd×List zg)->Except Int (List zd×κ×List Nat)
 |.error k=>.error k
 |.ok (cs,t)=>.ok (cs,R4 t,t.map zg.qh)
def we{s:ByteArray}{l:κ}(h:xw s.size s=some l):∃a,RC s=some a/\vm l=yO a.length a.length a:=by
 have b:=AD s;rw[h] at b;rcases c:RC s with _|a;rw[sH,c] at h;cases h;rw[c] at b;exact⟨a,rfl,b⟩
def oh:(jI cs=4/\cs.any yM=true)∨(jI cs=5/\cs.any yM=false/\uq cs=none)∨(∃t,cs.any yM=false/\uq cs=some t/\((jI cs=6/\cs.all xt=false)∨(jI cs=0/\cs.all xt=true))):=by
 unfold jI;rw[OE,GV];cases c:cs.any yM;right;rcases a:uq cs with _|t;left;rw[OD a];exact⟨rfl,rfl,rfl⟩;right;refine⟨t,rfl,rfl,?_⟩;rw[(tA a).1];cases b:cs.all xt;exact zh ⟨rfl,rfl⟩;exact ze ⟨rfl,rfl⟩;exact zh ⟨rfl,rfl⟩
def Fs(h:uq cs=some t):∀e∈t,e.qh<=0:=ev _ [] (λe a=>by cases a) t h
def EE{s:ByteArray}{r:Except Int (List zd×κ×List Nat)}(h:fh s r):e8 (ur s)=r:=by
 cases h with
 |long h=>unfold ur;rw[zb h];rfl
 |lex h f=>
  unfold ur;rw[za h];rw[sH] at f;rcases H:RC s with _|p;rfl;rw[H] at f;cases f
 |parse h f j=>
  obtain⟨p,i,d⟩:=we f;rw[j] at d;unfold ur;rw[za h,i];simp only;rw[←d];rfl
 |wrong h f j g=>
  rename_i cs;obtain⟨p,i,d⟩:=we f;rw[j] at d;unfold ur;rw[za h,i];simp only;rw[←d];simp only;rcases oh (cs:=cs) with⟨e,a⟩|⟨e,a,b⟩|⟨t,a,b,⟨e,c⟩|⟨e,c⟩⟩
  rw[e,a];rfl;rw[e,a,b];rfl;rw[e,a,b];simp only;rw[c];rfl;exact z9 e g
 |strata h f j g y=>
  rename_i cs;obtain⟨p,i,d⟩:=we f;rw[j] at d;unfold ur;rw[za h,i];simp only;rw[←d];simp only;rcases oh (cs:=cs) with⟨e,a⟩|⟨e,a,b⟩|⟨t,a,b,⟨e,c⟩|⟨e,c⟩⟩
  rw[g] at e;cases e;rw[g] at e;cases e;rw[g] at e;cases e;rw[a,b];simp only;rw[c];have q:=eA (tx (tA b).2) (Di (Fs b));have:(xX (t.length+1) t cs).2=false:=by rw[←pE];exact λe=>y (q.1.1 e)
  rw[this];rfl
 |ok h f j g v I C B=>
  rename_i l cs ps F;obtain⟨p,i,d⟩:=we f;rw[j] at d;unfold ur;rw[za h,i];simp only;rw[←d];simp only;rcases oh (cs:=cs) with⟨e,a⟩|⟨e,a,b⟩|⟨t,a,b,⟨e,c⟩|⟨e,c⟩⟩
  rw[g] at e;cases e;rw[g] at e;cases e;rw[g] at e;cases e;rw[a,b];simp only;rw[c];have u:=(tA b).2;have q:=eA (tx u) (Di (Fs b));have o:=q.1.2 ⟨_,B.1⟩;have m:=q.2 o;have A:=tY (t.length+1) t cs (tx u);rw[o];simp only[if_true,gQ,if_false,e8];generalize (xX (t.length+1) t cs).1=D at m A;have z:=A.trans (EY u.rise v λn=>(u.names n).trans (I n).symm);subst z;have x:D.map zg.qh=F:=by
   apply j7 (by rw[C];simp[R4]);intro k w J;have E:k<D.length:=by simpa using w
   have K:=Oz v C (k:=k) (by omega);have G:=L7 v E;rw[←K,Jl B m];simp only[R4,xV];exact G.symm
  rw[x]
end
end Go.Proofs.YteampbddflhngaaGreat
