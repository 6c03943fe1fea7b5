import Derived.Test.YteampbddflhngaaGreatQ01
namespace Go.Proofs.YteampbddflhngaaGreat
set_option linter.all false
set_option maxRecDepth 100000
set_option maxHeartbeats 8000000
open Go.Proofs.Tryz Go.RowKit
section
variable {lo:Nat}
def QJ(x y z:Value)(w:World):(Instr.index 165 (.agg #[x,y,z]) (ι 0)).run prog w=.ok x w:=by kernel_rfl
def QH(x y z:Value)(w:World):(Instr.index 165 (.agg #[x,y,z]) (ι 1)).run prog w=.ok y w:=by kernel_rfl
def Rn(x y z:Value)(w:World):(Instr.index 165 (.agg #[x,y,z]) (ι 2)).run prog w=.ok z w:=by kernel_rfl
def RT.trans{w e d:World}{tb:Nat}{i f:zj}{fp c a:List Nat}(h:RT lo w e tb i fp c)(k:RT lo e d tb f c a):RT lo w d tb f fp a:=
 ⟨k.trie,h.save.newer k.save h.qp,λb g=>(k.qp b g).elim (h.qp b) λq=>ze (zZ h.save.size q)⟩
def RT.refl{w:World}{tb:Nat}{T:zj}{fp:List Nat}(h:ya lo w tb T fp):RT lo w w tb T fp fp:=⟨h,zc.refl _ _,λ_ a=>zh a⟩
def RT.below{w b:World}{tb:Nat}{T:zj}{fp:List Nat}(h:ya lo w tb T fp)(a:μ w b):RT lo w b tb T fp fp:=⟨h.below a,zc.of a,λ_ a=>zh a⟩
def BG(T:zj)(a v d:Nat):(ye T a v d).qi.length=T.qi.length/\(ye T a v d).count=T.count/\(ye T a v d).ql=T.ql/\(ye T a v d).qf=T.qf:=by
 unfold ye;split<;>simp
def DI(T:zj)(a v:Nat):(qk T a v).1.qi.length<=T.qi.length+1/\(qk T a v).1.count=T.count/\(qk T a v).1.ql=T.ql/\(qk T a v).1.qf=T.qf:=by
 unfold qk;split;simp;obtain⟨d,c,e,b⟩:=BG (y7 T) a v T.qi.length;simp only[d,c,e,b];simp[y7]
def FV(w:World)(tb:Nat)(T:zj)(fp:List Nat)(a v:Nat)(h:ya lo w tb T fp)(p:T.qi.length<100000000):
  Calls prog 191 #[(π tb),ι a,ι v] w λe o=>e=ε (ι ((qk T a v).2:Nat))/\∃n,RT lo w o tb (qk T a v).1 fp n:=by
 have d:=Ry (nM w tb T fp a v h);rcases l:zH T a v with _|b
 .have g:Hid (qk T a v=(ye (y7 T) a v T.qi.length,T.qi.length)):=by unfold qk;rw[Hid,l]
  rw[l] at d;simp only[qY,gM,gL] at d;have s:=Ry (BJ w tb T fp h p);go_enter func191,ntmps191;go_wp2_with (first|(go_at_call 130;refine d.out.mono ?_;rintro e o ⟨rfl,c⟩;obtain rfl:=c.symm)|(go_at_call 162;refine s.out.mono ?_;rintro e q ⟨rfl,j,i⟩;have k:=Ry i;clear i)|(go_at_call 203;refine(Td q tb (y7 T) j a v T.qi.length k.out.trie).mono ?_;rintro e t ⟨rfl,f⟩;have m:=Ry f;clear f))
  go_ret;exact⟨by rw[g.out];rfl,j,by rw[g.out];exact k.out.trans m.out⟩
 have g:Hid (qk T a v=(T,b)):=by unfold qk;rw[Hid,l]
 rw[l] at d;simp only[qY,uL,kc] at d;have r:=Ry h;go_enter func191,ntmps191;go_wp2_with (go_at_call 130;refine d.out.mono ?_;rintro e o ⟨rfl,c⟩;obtain rfl:=c.symm)
 go_ret;exact⟨by rw[g.out];rfl,fp,by rw[g.out];exact RT.refl r.out⟩
def vu.setCount{w:World}{tb:Nat}{T:zj}{f:Value}{ns:List (Nat×Nat)}(h:vu lo w tb T f ns)(n:Nat)(k:n<=1000000000):RT lo w (w.setCell ⟨tb,3,none⟩ (ι n)) tb {T with count:=n} (S3 tb f ns) (S3 tb f ns):=by
 have a:=zc.set w tb 3 (ι n);have g:∀{q:Nat} {e:TypeId} {t:Nat} {v:Value} {r:Nat} {l:List Value},w.ownsRow q e t v r l->e≠229->∀b,v.ownBlock=some b->b∉[tb]:=λs u b j m=>vD s h.box u j (by simpa using m);refine⟨⟨f,ns,⟨h.low,?_,yK h.qi a (g h.qi (by decide)),h.len,λi d c=>yK (h.leap i d c) a (g (h.leap i d c) (by decide)),λi d c=>yK (h.down i d c) a (g (h.down i d c) (by decide)),h.apart,h.wide,h.many,h.deep,k⟩,rfl⟩,a.more (by simp[S3]),λb p=>zh p⟩;have o:=h.box.set 3 (ι n);simpa using o
def Ac(w:World)(tb:Nat)(T:zj)(fp:List Nat)(a v m:Nat)(h:ya lo w tb T fp)(z:T.count<1000000000):
  Calls prog 190 #[(π tb),ι a,ι v,ι m] w λe o=>e=ε (.bool (gN T a v m).2)/\∃q,RT lo w o tb (gN T a v m).1 fp q:=by
 have g:=Ry (nM w tb T fp a v h);rcases l:zH T a v with _|b
 .have j:Hid (gN T a v m=({ye T a v m with count:=(ye T a v m).count+1},true)):=by unfold gN;rw[Hid,l]
  rw[l] at g;simp only[qY,gM,gL] at g;have x:=Ry (Td w tb T fp a v m h);have i:=(BG T a v m).2.1;generalize ye T a v m=k at *;rw[←i] at z;clear h i;go_enter func190,ntmps190;go_wp2_with (first|(go_at_call 130;refine g.out.mono ?_;rintro e o ⟨rfl,c⟩;obtain rfl:=c.symm)|(go_at_call 203;refine x.out.mono ?_;rintro e s ⟨rfl,d⟩;obtain⟨D,C,f,n⟩:=d.trie;have r:=Ry d;have B:Hid (RT lo s (s.setCell ⟨tb,3,none⟩ (ι ((k.count+1:Nat)))) tb {k with count:=k.count+1} fp fp):=(by rw[n];exact f.setCount (k.count+1) (by omega));have p:=f.box;clear d f;obtain⟨u,A,t⟩:=p.boxed))
  go_ret;exact⟨by rw[j.out];rfl,fp,by rw[j.out];exact r.out.trans B.out⟩
 have j:Hid (gN T a v m=(T,false)):=by unfold gN;rw[Hid,l]
 rw[l] at g;simp only[qY,uL,kc] at g;have y:=Ry h;go_enter func190,ntmps190;go_wp2_with (go_at_call 130;refine g.out.mono ?_;rintro e o ⟨rfl,c⟩;obtain rfl:=c.symm)
 go_ret;exact⟨by rw[j.out];rfl,fp,by rw[j.out];exact RT.refl y.out⟩
def To(w:World)(tb:Nat)(T:zj)(fp:List Nat)(x y z:Nat)(h:ya lo w tb T fp):
  Calls prog 189 #[(π tb),.agg #[ι x,ι y,ι z]] w λe p=>e=ε (.bool (ln T [x,y,z]))/\μ w p:=by
 obtain⟨B,v,d,rfl⟩:=h;have l:=d.box;have q:=QJ (ι x) (ι y) (ι z);have t:=QH (ι x) (ι y) (ι z);have o:=Rn (ι x) (ι y) (ι z);have j:Hid (ln T [x,y,z]=(decide (x<T.qf)&&(decide (y<T.qf)&&decide (z<T.qf)))):=by simp[Hid,ln]
 go_enter func189,ntmps189;go_wp2;go_loopw [8] (λs wr=>∃k:Nat,k<=3/\s=ι k/\(1<=k->x<T.qf)/\(2<=k->y<T.qf)/\(3<=k->z<T.qf)/\μ w wr) (λi _=>3-(intOf i).toNat);exact⟨0,by omega,rfl,by omega,by omega,by omega,(by go_grown)⟩;obtain⟨k,n,rfl,d,m,r,a⟩:=hrel;have f:=l.below a;obtain⟨A,u⟩:=f.rules;match k,n with
 |0,_=>
  by_cases b:x<T.qf
  .go_wp2;go_roundw;exact⟨1,by omega,rfl,λ_=>b,by omega,by omega,a⟩;simp[intOf]
  go_wp2;go_ret;exact⟨by rw[j.out];simp[b],a⟩
 |1,_=>
  have b:=d (by omega);by_cases c:y<T.qf
  .go_wp2;go_roundw;exact⟨2,by omega,rfl,λ_=>b,λ_=>c,by omega,a⟩;simp[intOf]
  go_wp2;go_ret;exact⟨by rw[j.out];simp[c],a⟩
 |2,_=>
  have b:=d (by omega);have c:=m (by omega);by_cases g:z<T.qf
  .go_wp2;go_roundw;exact⟨3,by omega,rfl,λ_=>b,λ_=>c,λ_=>g,a⟩;simp[intOf]
  go_wp2;go_ret;exact⟨by rw[j.out];simp[g],a⟩
 |3,_=>
  have b:=d (by omega);have c:=m (by omega);have g:=r (by omega);go_wp2;go_ret;exact⟨by rw[j.out];simp[b,c,g],a⟩
def Oh(w:World)(tb:Nat)(T:zj)(fp:List Nat)(x y z m:Nat)(h:ya lo w tb T fp)(hn:T.qi.length<=90000000)(hc:T.count<1000000000):
  Calls prog 163 #[(π tb),.agg #[ι x,ι y,ι z],ι m] w λe Y=>e=ε (.bool (yx T [x,y,z] m).2)/\∃K,RT lo w Y tb (yx T [x,y,z] m).1 fp K:=by
 have Z:=QJ (ι x) (ι y) (ι z);have ac:=QH (ι x) (ι y) (ι z);have P:=Rn (ι x) (ι y) (ι z);have I:T.ql<=3:=by obtain⟨A,S,E,_⟩:=h;exact E.deep
 have B:=Ry λW U=>To W tb T fp x y z (h.below U);have M:=Ry h;clear h;cases t:ln T [x,y,z]
 .have n:Hid (yx T [x,y,z] m=(T,false)):=by simp[Hid,yx,t]
  rw[t] at B;clear t;go_enter func163,ntmps163;go_wp2_with (go_at_call 189;refine(B.out _ (by exact(by go_grown))).mono ?_;rintro e H ⟨rfl,l⟩;have s:μ w H:=zM (by go_grown) l (zf _))
  go_ret;exact⟨by rw[n.out];rfl,fp,by rw[n.out];exact RT.below M.out s⟩
 have n:Hid (yx T [x,y,z] m=vh m T 0 0 [x,y,z]):=by simp[Hid,yx,t]
 rw[t] at B;clear t;go_enter func163,ntmps163;go_wp2_with (go_at_call 189;refine(B.out _ (by exact(by go_grown))).mono ?_;rintro e H ⟨rfl,l⟩;have s:μ w H:=zM (by go_grown) l (zf _);have u:=(Rz.new w #[ι x,ι y,ι z] 165).below l;obtain⟨J,D,F⟩:=u.boxed)
 clear J D F u l B;go_loopw [7,15] (λv7 r wr=>∃(k a:Nat) (b:zj) (g:List Nat),k<=3/\r=ι k/\v7=ι a/\Hid (RT lo w wr tb b fp g)/\Hid (vh m T 0 0 [x,y,z]=vh m b a k ([x,y,z].drop k))/\b.qi.length<=T.qi.length+k/\b.count=T.count/\b.ql=T.ql) (λ_ r _=>3-(intOf r).toNat);exact⟨0,0,T,fp,by omega,rfl,rfl,RT.below M.out s,rfl,by omega,rfl,rfl⟩;obtain⟨k,a,b,g,N,rfl,rfl,j,o,X,aa,G⟩:=hrel;have q:∃A,Rz wr tb #[ι b.qf,ι b.ql,A,ι b.count] 229:=by obtain⟨A,S,E,_⟩:=j.out.trie;exact⟨A,E.box⟩
 obtain⟨A,q⟩:=q;rw[G] at q;obtain⟨R,ab,O⟩:=q.boxed;match k,N with
 |0,_=>
  by_cases L:T.ql<=1
  .have i:Hid (vh m b a 0 [x,y,z]=gN b a x m):=by rw[Hid];simp only[vh];rw[zb (by omega)]
   have p:=Ry (Ac wr tb b g a x m j.out.trie (by omega));go_wp2_with (go_at_call 190;refine p.out.mono ?_;rintro e C ⟨rfl,f,c⟩;have d:=Ry c;clear c)
   go_ret;exact⟨by rw[n.out,o.out];simp only[List.drop];rw[i.out];rfl,f,by rw[n.out,o.out];simp only[List.drop];rw[i.out];exact j.out.trans d.out⟩
  have i:Hid (vh m b a 0 [x,y,z]=vh m (qk b a x).1 (qk b a x).2 1 [y,z]):=by rw[Hid];simp only[vh];rw[za (by omega)]
  obtain⟨q1,q2,V,Q⟩:=DI b a x;have p:=Ry (FV wr tb b g a x j.out.trie (by omega));generalize qk b a x=v at *;go_wp2_with (go_at_call 191;refine p.out.mono ?_;rintro e C ⟨rfl,f,c⟩;have d:=Ry c;clear c)
  go_roundw;exact⟨1,v.2,v.1,f,by omega,rfl,rfl,j.out.trans d.out,(by rw[o.out];exact i.out),by omega,by omega,by omega⟩;simp[intOf]
 |1,_=>
  by_cases L:T.ql<=2
  .have i:Hid (vh m b a 1 [y,z]=gN b a y m):=by rw[Hid];simp only[vh];rw[zb (by omega)]
   have p:=Ry (Ac wr tb b g a y m j.out.trie (by omega));go_wp2_with (go_at_call 190;refine p.out.mono ?_;rintro e C ⟨rfl,f,c⟩;have d:=Ry c;clear c)
   go_ret;exact⟨by rw[n.out,o.out];simp only[List.drop];rw[i.out];rfl,f,by rw[n.out,o.out];simp only[List.drop];rw[i.out];exact j.out.trans d.out⟩
  have i:Hid (vh m b a 1 [y,z]=vh m (qk b a y).1 (qk b a y).2 2 [z]):=by rw[Hid];simp only[vh];rw[za (by omega)]
  obtain⟨q1,q2,V,Q⟩:=DI b a y;have p:=Ry (FV wr tb b g a y j.out.trie (by omega));generalize qk b a y=v at *;go_wp2_with (go_at_call 191;refine p.out.mono ?_;rintro e C ⟨rfl,f,c⟩;have d:=Ry c;clear c)
  go_roundw;exact⟨2,v.2,v.1,f,by omega,rfl,rfl,j.out.trans d.out,(by rw[o.out];exact i.out),by omega,by omega,by omega⟩;simp[intOf]
 |2,_=>
  by_cases L:T.ql<=3
  .have i:Hid (vh m b a 2 [z]=gN b a z m):=by rw[Hid];simp only[vh];rw[zb (by omega)]
   have p:=Ry (Ac wr tb b g a z m j.out.trie (by omega));go_wp2_with (go_at_call 190;refine p.out.mono ?_;rintro e C ⟨rfl,f,c⟩;have d:=Ry c;clear c)
   go_ret;exact⟨by rw[n.out,o.out];simp only[List.drop];rw[i.out];rfl,f,by rw[n.out,o.out];simp only[List.drop];rw[i.out];exact j.out.trans d.out⟩
  exact z9 I L
 |3,_=>
  have i:Hid (vh m b a 3 []=(b,false)):=by rw[Hid];simp only[vh]
  go_wp2;go_ret;exact⟨by rw[n.out,o.out];simp only[List.drop];rw[i.out];rfl,g,by rw[n.out,o.out];simp only[List.drop];rw[i.out];exact j.out⟩
def Js(w:World)(tb:Nat)(T:zj)(fp:List Nat)(x y z:Nat)(h:ya lo w tb T fp):
  Calls prog 83 #[(π tb),.agg #[ι x,ι y,ι z]] w λe m=>e=ε (qY (ut T [x,y,z]))/\μ w m:=by
 have G:=QJ (ι x) (ι y) (ι z);have J:=QH (ι x) (ι y) (ι z);have D:=Rn (ι x) (ι y) (ι z);have p:∃t,Rz w tb #[ι T.qf,ι T.ql,t,ι T.count] 229/\T.ql<=3:=by obtain⟨t,K,A,_⟩:=h;exact⟨t,A.box,A.deep⟩
 obtain⟨t,p,u⟩:=p;have r:=Ry λW a v F=>nM W tb T fp a v (h.below F);clear h;have o:Hid (ut T [x,y,z]=uM T 0 0 [x,y,z]):=rfl;go_enter func83,ntmps83;go_wp2;go_loopw [6,12] (λH q wr=>∃k a:Nat,k<=3/\q=ι k/\H=ι a/\Hid (uM T 0 0 [x,y,z]=uM T a k ([x,y,z].drop k))/\μ w wr) (λ_ q _=>3-(intOf q).toNat);exact⟨0,0,by omega,rfl,rfl,rfl,(by go_grown)⟩;obtain⟨k,a,B,rfl,rfl,l,c⟩:=hrel;have s:=p.below c;obtain⟨E,I,C⟩:=s.boxed;match k,B with
 |0,_=>
  rcases g:zH T a x with _|b
  .have i:Hid (uM T a 0 [x,y,z]=none):=by rw[Hid];simp only[uM];rw[g]
   have f:=r.out wr a x c;rw[g] at f;simp only[qY,gM,gL] at f;have j:=Ry f;clear f g;go_wp2_with (go_at_call 130;refine j.out.mono ?_;rintro e m ⟨rfl,d⟩;obtain rfl:=d.symm)
   go_ret2
   exact⟨by rw[o.out,l.out];simp only[List.drop];rw[i.out];rfl,c⟩
  have f:=r.out wr a x c;rw[g] at f;simp only[qY,uL,kc] at f;have j:=Ry f;clear f;by_cases n:T.ql<=1
  .have i:Hid (uM T a 0 [x,y,z]=some b):=by rw[Hid];simp only[uM];rw[g];simp only;rw[zb (by omega)]
   clear g;go_wp2_with (go_at_call 130;refine j.out.mono ?_;rintro e m ⟨rfl,d⟩;obtain rfl:=d.symm)
   go_ret2
   exact⟨by rw[o.out,l.out];simp only[List.drop];rw[i.out];rfl,c⟩
  have i:Hid (uM T a 0 [x,y,z]=uM T b 1 [y,z]):=by rw[Hid];simp only[uM];rw[g];simp only;rw[za (by omega)]
  clear g;go_wp2_with (go_at_call 130;refine j.out.mono ?_;rintro e m ⟨rfl,d⟩;obtain rfl:=d.symm)
  go_roundw;exact⟨1,b,by omega,rfl,rfl,(by rw[l.out];exact i.out),c⟩;simp[intOf]
 |1,_=>
  rcases g:zH T a y with _|b
  .have i:Hid (uM T a 1 [y,z]=none):=by rw[Hid];simp only[uM];rw[g]
   have f:=r.out wr a y c;rw[g] at f;simp only[qY,gM,gL] at f;have j:=Ry f;clear f g;go_wp2_with (go_at_call 130;refine j.out.mono ?_;rintro e m ⟨rfl,d⟩;obtain rfl:=d.symm)
   go_ret2
   exact⟨by rw[o.out,l.out];simp only[List.drop];rw[i.out];rfl,c⟩
  have f:=r.out wr a y c;rw[g] at f;simp only[qY,uL,kc] at f;have j:=Ry f;clear f;by_cases n:T.ql<=2
  .have i:Hid (uM T a 1 [y,z]=some b):=by rw[Hid];simp only[uM];rw[g];simp only;rw[zb (by omega)]
   clear g;go_wp2_with (go_at_call 130;refine j.out.mono ?_;rintro e m ⟨rfl,d⟩;obtain rfl:=d.symm)
   go_ret2
   exact⟨by rw[o.out,l.out];simp only[List.drop];rw[i.out];rfl,c⟩
  have i:Hid (uM T a 1 [y,z]=uM T b 2 [z]):=by rw[Hid];simp only[uM];rw[g];simp only;rw[za (by omega)]
  clear g;go_wp2_with (go_at_call 130;refine j.out.mono ?_;rintro e m ⟨rfl,d⟩;obtain rfl:=d.symm)
  go_roundw;exact⟨2,b,by omega,rfl,rfl,(by rw[l.out];exact i.out),c⟩;simp[intOf]
 |2,_=>
  rcases g:zH T a z with _|b
  .have i:Hid (uM T a 2 [z]=none):=by rw[Hid];simp only[uM];rw[g]
   have f:=r.out wr a z c;rw[g] at f;simp only[qY,gM,gL] at f;have j:=Ry f;clear f g;go_wp2_with (go_at_call 130;refine j.out.mono ?_;rintro e m ⟨rfl,d⟩;obtain rfl:=d.symm)
   go_ret2
   exact⟨by rw[o.out,l.out];simp only[List.drop];rw[i.out];rfl,c⟩
  have f:=r.out wr a z c;rw[g] at f;simp only[qY,uL,kc] at f;have j:=Ry f;clear f;by_cases n:T.ql<=3
  .have i:Hid (uM T a 2 [z]=some b):=by rw[Hid];simp only[uM];rw[g];simp only;rw[zb (by omega)]
   clear g;go_wp2_with (go_at_call 130;refine j.out.mono ?_;rintro e m ⟨rfl,d⟩;obtain rfl:=d.symm)
   go_ret2
   exact⟨by rw[o.out,l.out];simp only[List.drop];rw[i.out];rfl,c⟩
  exact z9 u n
 |3,_=>
  have i:Hid (uM T a 3 []=none):=by rw[Hid];simp only[uM]
  go_wp2;go_ret2
  exact⟨by rw[o.out,l.out];simp only[List.drop];rw[i.out];rfl,c⟩
def Rs:(prog.info? 165).map (λi=>(i.zero,i.size,i.bytes))=some (some (.agg #[ι 0,ι 0,ι 0]),3,24):=by kernel_rfl
def j8(rs:List zi):List Value:=rs.flatMap (·.map Sf)
def RG(lo:Nat)(w:World)(v:Value)(rs:List zi):Prop:=w.ownsRow lo 165 3 v rs.length (j8 rs)/\∀r∈rs,r.length=3
def vd(B:Nat)(w:World)(b tb:Nat)(row:zi)(a:List zi):Prop:=∃(x y z:Nat) (c:Value),row=[x,y,z]/\B<=b/\Rz w b #[(π tb),ι x,ι y,ι z,c] 223/\RG B w c a
def em{T:zj}{a f v:Nat}(h:yB T a f=some v):v<T.qf:=by
 unfold yB at h;split at h;simp only at h;split at h;cases h;simp only[zr] at h;omega;cases h
def lF(T:zj):∀(n a level f:Nat) (row:zi) (b:List zi) (c:zi×List zi),xQ T n a level f row b=some c->b.length<=c.2.length
 |0,_,_,_,_,_,_,h=>by simp[xQ] at h
 |n+1,a,level,f,row,b,c,h=>by
  unfold xQ at h;split at h
  .simp at h;subst h;simp
  .rename_i v k;simp only at h;split at h
   .have:=lF T n _ _ _ _ _ _ h;simp at this;omega
   .split at h
    .exact lF T n _ _ _ _ _ _ h
    .split at h
     .cases h
     .rename_i e d i;have g:=lF T n _ _ _ _ _ _ i;have j:=lF T n _ _ _ _ _ _ h;simp at g;omega
def Nd(c:World)(tb:Nat)(T:zj)(fp:List Nat)(ht:ya lo c tb T fp)(g n:Nat)(ih:(∀m,m<n->∀(w:World) (a level:Nat) (row:zi) (h:List zi) (d:zi×List zi),xQ T m a level 0 row h=some d->level<3->d.2.length<=1048576->μ c w->vd c.heap.size w g tb row h->Calls prog 127 #[(π g),ι a,ι level] w λe j=>e=ε (.tuple #[])/\vd c.heap.size j g tb d.1 d.2/\μ c j))(w:World)(a:Nat)(row:zi)(h:List zi)(d:zi×List zi)(R:xQ T n a 0 0 row h=some d)(a3:d.2.length<=1048576)(V:μ c w)(E:vd c.heap.size w g tb row h):
  Calls prog 127 #[(π g),ι a,ι 0] w λe j=>e=ε (.tuple #[])/\vd c.heap.size j g tb d.1 d.2/\μ c j:=by
 have HI:=Ry ih;clear ih;have HL:Hid (∀W f,μ c W->Calls prog 167 #[(π tb),ι a,ι ((f:Nat):Int)] W λe j=>e=ε (.tuple #[ι (((yB T a f).getD 0:Nat):Int),.bool (yB T a f).isSome])/\j=W):=λW f hW=>so W tb T fp a f (ht.below hW);have HD:Hid (∀W v,μ c W->Calls prog 130 #[(π tb),ι a,ι ((v:Nat):Int)] W λe j=>e=ε (.tuple #[ι (((zH T a v).getD 0:Nat):Int),.bool (zH T a v).isSome])/\j=W):=λW v hW=>nM W tb T fp a v (ht.below hW);have aG:T.ql<=3:=by obtain⟨nv,ns,h1,_⟩:=ht;exact h1.deep
 have aC:T.qf<=1000:=by obtain⟨nv,ns,h1,_⟩:=ht;exact h1.wide
 have A:∃nv,Rz c tb #[ι T.qf,ι T.ql,nv,ι T.count] 229:=by obtain⟨nv,ns,h1,_⟩:=ht;exact⟨nv,h1.box⟩
 obtain⟨nv,A⟩:=A;clear ht;have ah:=Ry E;have Q:=Ry R;obtain⟨x,y,z,rv,av,u,l,am,az⟩:=E;clear av am az R;obtain⟨L,N,S⟩:=l.boxed;go_enter func127,ntmps127;go_wp2_with (go_at_call 167;refine(HL.out w 0 V).mono ?_;rintro e j ⟨rfl,s⟩;obtain rfl:=s.symm;clear s)
 clear L N S l;go_loopg [6,7] n (λk v6 v7 wr=>∃(f:Nat) (G:zi) (b:List zi),v6=ι (((yB T a f).getD 0:Nat):Int)/\v7=.bool (yB T a f).isSome/\Hid (vd c.heap.size wr g tb G b)/\Hid (xQ T k a 0 f G b=some d)/\k<=n/\μ c wr)
 case atStart=>exact⟨0,row,h,rfl,rfl,ah,Q,zf _,V⟩
 clear ah Q V u;obtain⟨f,G,b,rfl,rfl,Y,HQ,a9,M⟩:=hrel;have ap:=Y.out;obtain⟨x,y,z,rv,X,u,l,B,ae⟩:=ap;subst X;obtain⟨L,N,S⟩:=l.boxed;rcases gk with _|m;have:=HQ.out;simp[xQ] at this;have D:=HQ.out;unfold xQ at D;rcases hl:yB T a f with _|v
 .rw[hl] at D;simp only[zr] at D;have HE:Hid (d=([x,y,z],b)):=D.symm;clear D hl HQ;simp only[gM,gL];go_wp2;go_end0
  exact⟨rfl,by rw[HE.out];exact Y.out,M⟩
 rw[hl] at D;simp only at D;have aE:v<=1000:=by have:=em hl;omega
 clear hl HQ;simp only[uL,kc];have ad:Hid (∀W,μ c W->Calls prog 167 #[(π tb),ι a,ι ((v:Int)+1)] W λe j=>e=ε (.tuple #[ι (((yB T a (v+1)).getD 0:Nat):Int),.bool (yB T a (v+1)).isSome])/\j=W):=λW hW=>by
  have q:=HL.out W (v+1) hW;rw[show((v+1:Nat):Int)=(v:Int)+1 from by omega] at q;exact q
 have o:=l.set 1 (ι v);simp at o;have ak:=A.below M;obtain⟨aq,an,aw⟩:=ak.boxed;have aF:g≠tb:=(λe=>by have:=A.lt;omega);by_cases hd:T.ql<=1
 .rw[zb (by omega)] at D;have J:Hid (xQ T m a 0 (v+1) [v,y,z] (b++[[v,y,z]])=some d):=D;have U:=lF T m _ _ _ _ _ _ D;simp at U;clear D HI HD HL;obtain⟨i0,hi,a0,au,ay⟩:=info_parts Rs;obtain⟨ao,ai,rfl⟩:=zq B;have t:(wr.setCell ⟨g,1,none⟩ (ι v)).ownsRow c.heap.size 165 3 (.slice ao b.length ai) b.length (j8 b):=xF B ((RD.refl g wr).setCell 1 _) l (by decide);have H:μ c (wr.setCell ⟨g,1,none⟩ (ι v)):=M.setCell (p:=⟨g,1,none⟩) u _;have ar:=H.size;go_wp2;clear L N l B aq an aw ak Y S;generalize wr.setCell ⟨g,1,none⟩ (ι v)=wS at *;obtain⟨L,N,a5⟩:=o.boxed;go_region_law (first|(refine fw wS _ [ι v,ι y,ι z] 165 rfl (.tmp 42) (.tmp 47) 161 rfl c.heap.size 165 i0 _ 3 24 underlying161 hi a0 au ay rfl (by decide) (.slice ao b.length ai) b.length (j8 b) (by simp[Act.eval]) t (by exact(by go_grown)) wS.heap.size 1 (by simp[Act.eval]) (by exact Rz.drew (Rz.new _ _ _)) rfl (by simp[Value.oneCell']) (by omega) (by omega) (by omega) ?_;intro v' w2 ac al a7 aD a2;obtain⟨C,i,rfl⟩:=zq ac;have F:=o.save al (qK t o (by decide));obtain⟨a8,aA,aB⟩:=F.boxed))
  all_goals
   have aa:RG c.heap.size (w2.setCell ⟨g,4,none⟩ (.slice C (b.length+1) i)) (.slice C (b.length+1) i) (b++[[v,y,z]]):=by
    refine⟨?_,λr hr=>?_⟩;have:=xF ac ((RD.refl g w2).setCell 4 (.slice C (b.length+1) i)) F (by decide);simpa [j8,Sf] using this;rcases zW.1 hr with q|q;exact ae r q;simp at q;rw[q];rfl
   have P:=F.set 4 (.slice C (b.length+1) i);simp at P;have ab:μ c (w2.setCell ⟨g,4,none⟩ (.slice C (b.length+1) i)):=(H.trans (al.below (λx hx=>yX t (xb hx)) ar)).setCell (p:=⟨g,4,none⟩) u _;have I:Hid (vd c.heap.size (w2.setCell ⟨g,4,none⟩ (.slice C (b.length+1) i)) g tb [v,y,z] (b++[[v,y,z]])):=⟨_,_,_,_,rfl,u,P,aa⟩;go_wp2_with (go_at_call 167;refine(ad.out _ (by exact ab)).mono ?_;rintro e j ⟨rfl,s⟩;obtain rfl:=s.symm)
   go_roundg m
   case measure=>omega
   exact⟨v+1,_,_,rfl,rfl,I,J,by omega,ab⟩
 have J:=D;rw[za (by omega),za (by omega)] at J;have H:μ c (wr.setCell ⟨g,1,none⟩ (ι v)):=M.setCell (p:=⟨g,1,none⟩) u _;have af:vd c.heap.size (wr.setCell ⟨g,1,none⟩ (ι v)) g tb [v,y,z] b:=⟨_,_,_,rv,rfl,u,o,xF B ((RD.refl g wr).setCell 1 _) l (by decide),ae⟩;rcases K:xQ T m ((zH T a v).getD 0) 1 0 [v,y,z] b with _|Z;rw[show [x,y,z].set 0 v=[v,y,z] from rfl] at J;rw[K] at J;cases J;rw[show [x,y,z].set 0 v=[v,y,z] from rfl] at J;rw[K] at J;have H3:xQ T m a 0 (v+1) Z.1 Z.2=some d:=J;have HW:Hid (Calls prog 127 #[(π g),ι (((zH T a v).getD 0:Nat):Int),ι 1] (wr.setCell ⟨g,1,none⟩ (ι v)) λe j=>e=ε (.tuple #[])/\vd c.heap.size j g tb Z.1 Z.2/\μ c j):=by
  have q:=HI.out m (by omega) _ _ _ _ _ Z K (by omega) (by have:=lF T m _ _ _ _ _ _ H3;omega) H af;rw[show((1:Nat):Int)=1 from rfl] at q;exact q
 have H4:=Ry H3;clear D J H3 K;have ax:=Ry (HD.out _ v H);generalize (zH T a v).getD 0=dn at *;generalize (zH T a v).isSome=ds at *;clear HD HI HL;go_wp2_with (first|(go_at_call 130;refine ax.out.mono ?_;rintro e j ⟨rfl,s⟩;obtain rfl:=s.symm)|(go_at_call 127;refine HW.out.mono ?_;rintro e w3 ⟨rfl,O,ag⟩;have I:=Ry O;obtain⟨x3,y3,z3,aH,_,_,aj,_,_⟩:=O;obtain⟨a6,a1,a4⟩:=aj.boxed)|(go_at_call 167;refine(ad.out _ ag).mono ?_;rintro e j ⟨rfl,s⟩;obtain rfl:=s.symm))
 go_roundg m
 case measure=>omega
 exact⟨v+1,Z.1,Z.2,rfl,rfl,I,H4,by omega,ag⟩
def P7(c:World)(tb:Nat)(T:zj)(fp:List Nat)(ht:ya lo c tb T fp)(g n:Nat)(ih:(∀m,m<n->∀(w:World) (a level:Nat) (row:zi) (h:List zi) (d:zi×List zi),xQ T m a level 0 row h=some d->level<3->d.2.length<=1048576->μ c w->vd c.heap.size w g tb row h->Calls prog 127 #[(π g),ι a,ι level] w λe j=>e=ε (.tuple #[])/\vd c.heap.size j g tb d.1 d.2/\μ c j))(w:World)(a:Nat)(row:zi)(h:List zi)(d:zi×List zi)(R:xQ T n a 1 0 row h=some d)(a3:d.2.length<=1048576)(V:μ c w)(E:vd c.heap.size w g tb row h):
  Calls prog 127 #[(π g),ι a,ι 1] w λe j=>e=ε (.tuple #[])/\vd c.heap.size j g tb d.1 d.2/\μ c j:=by
 have HI:=Ry ih;clear ih;have HL:Hid (∀W f,μ c W->Calls prog 167 #[(π tb),ι a,ι ((f:Nat):Int)] W λe j=>e=ε (.tuple #[ι (((yB T a f).getD 0:Nat):Int),.bool (yB T a f).isSome])/\j=W):=λW f hW=>so W tb T fp a f (ht.below hW);have HD:Hid (∀W v,μ c W->Calls prog 130 #[(π tb),ι a,ι ((v:Nat):Int)] W λe j=>e=ε (.tuple #[ι (((zH T a v).getD 0:Nat):Int),.bool (zH T a v).isSome])/\j=W):=λW v hW=>nM W tb T fp a v (ht.below hW);have aG:T.ql<=3:=by obtain⟨nv,ns,h1,_⟩:=ht;exact h1.deep
 have aC:T.qf<=1000:=by obtain⟨nv,ns,h1,_⟩:=ht;exact h1.wide
 have A:∃nv,Rz c tb #[ι T.qf,ι T.ql,nv,ι T.count] 229:=by obtain⟨nv,ns,h1,_⟩:=ht;exact⟨nv,h1.box⟩
 obtain⟨nv,A⟩:=A;clear ht;have ah:=Ry E;have Q:=Ry R;obtain⟨x,y,z,rv,av,u,l,am,az⟩:=E;clear av am az R;obtain⟨L,N,S⟩:=l.boxed;go_enter func127,ntmps127;go_wp2_with (go_at_call 167;refine(HL.out w 0 V).mono ?_;rintro e j ⟨rfl,s⟩;obtain rfl:=s.symm;clear s)
 clear L N S l;go_loopg [6,7] n (λk v6 v7 wr=>∃(f:Nat) (G:zi) (b:List zi),v6=ι (((yB T a f).getD 0:Nat):Int)/\v7=.bool (yB T a f).isSome/\Hid (vd c.heap.size wr g tb G b)/\Hid (xQ T k a 1 f G b=some d)/\k<=n/\μ c wr)
 case atStart=>exact⟨0,row,h,rfl,rfl,ah,Q,zf _,V⟩
 clear ah Q V u;obtain⟨f,G,b,rfl,rfl,Y,HQ,a9,M⟩:=hrel;have ap:=Y.out;obtain⟨x,y,z,rv,X,u,l,B,ae⟩:=ap;subst X;obtain⟨L,N,S⟩:=l.boxed;rcases gk with _|m;have:=HQ.out;simp[xQ] at this;have D:=HQ.out;unfold xQ at D;rcases hl:yB T a f with _|v
 .rw[hl] at D;simp only[zr] at D;have HE:Hid (d=([x,y,z],b)):=D.symm;clear D hl HQ;simp only[gM,gL];go_wp2;go_end0
  exact⟨rfl,by rw[HE.out];exact Y.out,M⟩
 rw[hl] at D;simp only at D;have aE:v<=1000:=by have:=em hl;omega
 clear hl HQ;simp only[uL,kc];have ad:Hid (∀W,μ c W->Calls prog 167 #[(π tb),ι a,ι ((v:Int)+1)] W λe j=>e=ε (.tuple #[ι (((yB T a (v+1)).getD 0:Nat):Int),.bool (yB T a (v+1)).isSome])/\j=W):=λW hW=>by
  have q:=HL.out W (v+1) hW;rw[show((v+1:Nat):Int)=(v:Int)+1 from by omega] at q;exact q
 have o:=l.set 2 (ι v);simp at o;have ak:=A.below M;obtain⟨aq,an,aw⟩:=ak.boxed;have aF:g≠tb:=(λe=>by have:=A.lt;omega);by_cases hd:T.ql<=2
 .rw[zb (by omega)] at D;have J:Hid (xQ T m a 1 (v+1) [x,v,z] (b++[[x,v,z]])=some d):=D;have U:=lF T m _ _ _ _ _ _ D;simp at U;clear D HI HD HL;obtain⟨i0,hi,a0,au,ay⟩:=info_parts Rs;obtain⟨ao,ai,rfl⟩:=zq B;have t:(wr.setCell ⟨g,2,none⟩ (ι v)).ownsRow c.heap.size 165 3 (.slice ao b.length ai) b.length (j8 b):=xF B ((RD.refl g wr).setCell 2 _) l (by decide);have H:μ c (wr.setCell ⟨g,2,none⟩ (ι v)):=M.setCell (p:=⟨g,2,none⟩) u _;have ar:=H.size;go_wp2;clear L N l B aq an aw ak Y S;generalize wr.setCell ⟨g,2,none⟩ (ι v)=wS at *;obtain⟨L,N,a5⟩:=o.boxed;go_region_law (first|(refine fw wS _ [ι x,ι v,ι z] 165 rfl (.tmp 42) (.tmp 47) 161 rfl c.heap.size 165 i0 _ 3 24 underlying161 hi a0 au ay rfl (by decide) (.slice ao b.length ai) b.length (j8 b) (by simp[Act.eval]) t (by exact(by go_grown)) wS.heap.size 1 (by simp[Act.eval]) (by exact Rz.drew (Rz.new _ _ _)) rfl (by simp[Value.oneCell']) (by omega) (by omega) (by omega) ?_;intro v' w2 ac al a7 aD a2;obtain⟨C,i,rfl⟩:=zq ac;have F:=o.save al (qK t o (by decide));obtain⟨a8,aA,aB⟩:=F.boxed))
  all_goals
   have aa:RG c.heap.size (w2.setCell ⟨g,4,none⟩ (.slice C (b.length+1) i)) (.slice C (b.length+1) i) (b++[[x,v,z]]):=by
    refine⟨?_,λr hr=>?_⟩;have:=xF ac ((RD.refl g w2).setCell 4 (.slice C (b.length+1) i)) F (by decide);simpa [j8,Sf] using this;rcases zW.1 hr with q|q;exact ae r q;simp at q;rw[q];rfl
   have P:=F.set 4 (.slice C (b.length+1) i);simp at P;have ab:μ c (w2.setCell ⟨g,4,none⟩ (.slice C (b.length+1) i)):=(H.trans (al.below (λx hx=>yX t (xb hx)) ar)).setCell (p:=⟨g,4,none⟩) u _;have I:Hid (vd c.heap.size (w2.setCell ⟨g,4,none⟩ (.slice C (b.length+1) i)) g tb [x,v,z] (b++[[x,v,z]])):=⟨_,_,_,_,rfl,u,P,aa⟩;go_wp2_with (go_at_call 167;refine(ad.out _ (by exact ab)).mono ?_;rintro e j ⟨rfl,s⟩;obtain rfl:=s.symm)
   go_roundg m
   case measure=>omega
   exact⟨v+1,_,_,rfl,rfl,I,J,by omega,ab⟩
 have J:=D;rw[za (by omega),za (by omega)] at J;have H:μ c (wr.setCell ⟨g,2,none⟩ (ι v)):=M.setCell (p:=⟨g,2,none⟩) u _;have af:vd c.heap.size (wr.setCell ⟨g,2,none⟩ (ι v)) g tb [x,v,z] b:=⟨_,_,_,rv,rfl,u,o,xF B ((RD.refl g wr).setCell 2 _) l (by decide),ae⟩;rcases K:xQ T m ((zH T a v).getD 0) 2 0 [x,v,z] b with _|Z;rw[show [x,y,z].set 1 v=[x,v,z] from rfl] at J;rw[K] at J;cases J;rw[show [x,y,z].set 1 v=[x,v,z] from rfl] at J;rw[K] at J;have H3:xQ T m a 1 (v+1) Z.1 Z.2=some d:=J;have HW:Hid (Calls prog 127 #[(π g),ι (((zH T a v).getD 0:Nat):Int),ι 2] (wr.setCell ⟨g,2,none⟩ (ι v)) λe j=>e=ε (.tuple #[])/\vd c.heap.size j g tb Z.1 Z.2/\μ c j):=by
  have q:=HI.out m (by omega) _ _ _ _ _ Z K (by omega) (by have:=lF T m _ _ _ _ _ _ H3;omega) H af;rw[show((2:Nat):Int)=2 from rfl] at q;exact q
 have H4:=Ry H3;clear D J H3 K;have ax:=Ry (HD.out _ v H);generalize (zH T a v).getD 0=dn at *;generalize (zH T a v).isSome=ds at *;clear HD HI HL;go_wp2_with (first|(go_at_call 130;refine ax.out.mono ?_;rintro e j ⟨rfl,s⟩;obtain rfl:=s.symm)|(go_at_call 127;refine HW.out.mono ?_;rintro e w3 ⟨rfl,O,ag⟩;have I:=Ry O;obtain⟨x3,y3,z3,aH,_,_,aj,_,_⟩:=O;obtain⟨a6,a1,a4⟩:=aj.boxed)|(go_at_call 167;refine(ad.out _ ag).mono ?_;rintro e j ⟨rfl,s⟩;obtain rfl:=s.symm))
 go_roundg m
 case measure=>omega
 exact⟨v+1,Z.1,Z.2,rfl,rfl,I,H4,by omega,ag⟩
def G1(c:World)(tb:Nat)(T:zj)(fp:List Nat)(V:ya lo c tb T fp)(i n:Nat)(ih:(∀m,m<n->∀(w:World) (a level:Nat) (row:zi) (g:List zi) (d:zi×List zi),xQ T m a level 0 row g=some d->level<3->d.2.length<=1048576->μ c w->vd c.heap.size w i tb row g->Calls prog 127 #[(π i),ι a,ι level] w λe u=>e=ε (.tuple #[])/\vd c.heap.size u i tb d.1 d.2/\μ c u))(w:World)(a:Nat)(row:zi)(g:List zi)(d:zi×List zi)(L:xQ T n a 2 0 row g=some d)(ay:d.2.length<=1048576)(O:μ c w)(A:vd c.heap.size w i tb row g):
  Calls prog 127 #[(π i),ι a,ι 2] w λe u=>e=ε (.tuple #[])/\vd c.heap.size u i tb d.1 d.2/\μ c u:=by
 have HI:=Ry ih;clear ih;have HL:Hid (∀W f,μ c W->Calls prog 167 #[(π tb),ι a,ι ((f:Nat):Int)] W λe u=>e=ε (.tuple #[ι (((yB T a f).getD 0:Nat):Int),.bool (yB T a f).isSome])/\u=W):=λW f hW=>so W tb T fp a f (V.below hW);have HD:Hid (∀W v,μ c W->Calls prog 130 #[(π tb),ι a,ι ((v:Nat):Int)] W λe u=>e=ε (.tuple #[ι (((zH T a v).getD 0:Nat):Int),.bool (zH T a v).isSome])/\u=W):=λW v hW=>nM W tb T fp a v (V.below hW);have av:T.ql<=3:=by obtain⟨U,ns,Z,_⟩:=V;exact Z.deep
 have a5:T.qf<=1000:=by obtain⟨U,ns,Z,_⟩:=V;exact Z.wide
 have o:∃U,Rz c tb #[ι T.qf,ι T.ql,U,ι T.count] 229:=by obtain⟨U,ns,Z,_⟩:=V;exact⟨U,Z.box⟩
 obtain⟨U,o⟩:=o;clear V;have aa:=Ry A;have K:=Ry L;obtain⟨x,y,z,rv,ap,D,l,ai,au⟩:=A;clear ap ai au L;obtain⟨G,I,M⟩:=l.boxed;go_enter func127,ntmps127;go_wp2_with (go_at_call 167;refine(HL.out w 0 O).mono ?_;rintro e u ⟨rfl,H⟩;obtain rfl:=H.symm;clear H)
 clear G I M l;go_loopg [6,7] n (λk v6 v7 wr=>∃(f:Nat) (F:zi) (b:List zi),v6=ι (((yB T a f).getD 0:Nat):Int)/\v7=.bool (yB T a f).isSome/\Hid (vd c.heap.size wr i tb F b)/\Hid (xQ T k a 2 f F b=some d)/\k<=n/\μ c wr)
 case atStart=>exact⟨0,row,g,rfl,rfl,aa,K,zf _,O⟩
 clear aa K O D;obtain⟨f,F,b,rfl,rfl,Q,HQ,a2,R⟩:=hrel;have ak:=Q.out;obtain⟨x,y,z,rv,P,D,l,B,ah⟩:=ak;subst P;obtain⟨G,I,M⟩:=l.boxed;rcases gk with _|m;have:=HQ.out;simp[xQ] at this;have C:=HQ.out;unfold xQ at C;rcases hl:yB T a f with _|v
 .rw[hl] at C;simp only[zr] at C;have HE:Hid (d=([x,y,z],b)):=C.symm;clear C hl HQ;simp only[gM,gL];go_wp2;go_end0
  exact⟨rfl,by rw[HE.out];exact Q.out,R⟩
 rw[hl] at C;simp only at C;have a7:v<=1000:=by have:=em hl;omega
 clear hl HQ;simp only[uL,kc];have ag:Hid (∀W,μ c W->Calls prog 167 #[(π tb),ι a,ι ((v:Int)+1)] W λe u=>e=ε (.tuple #[ι (((yB T a (v+1)).getD 0:Nat):Int),.bool (yB T a (v+1)).isSome])/\u=W):=λW hW=>by
  have q:=HL.out W (v+1) hW;rw[show((v+1:Nat):Int)=(v:Int)+1 from by omega] at q;exact q
 have s:=l.set 3 (ι v);simp at s;have ae:=o.below R;obtain⟨al,aj,aq⟩:=ae.boxed;have a8:i≠tb:=(λe=>by have:=o.lt;omega);by_cases hd:T.ql<=3
 .rw[zb (by omega)] at C;have H2:Hid (xQ T m a 2 (v+1) [x,y,v] (b++[[x,y,v]])=some d):=C;have N:=lF T m _ _ _ _ _ _ C;simp at N;clear C HI HD HL;obtain⟨i0,hi,aw,an,ar⟩:=info_parts Rs;obtain⟨ao,ac,rfl⟩:=zq B;have j:(wr.setCell ⟨i,3,none⟩ (ι v)).ownsRow c.heap.size 165 3 (.slice ao b.length ac) b.length (j8 b):=xF B ((RD.refl i wr).setCell 3 _) l (by decide);have ab:μ c (wr.setCell ⟨i,3,none⟩ (ι v)):=R.setCell (p:=⟨i,3,none⟩) D _;have am:=ab.size;go_wp2;clear G I l B al aj aq ae Q M;generalize wr.setCell ⟨i,3,none⟩ (ι v)=wS at *;obtain⟨G,I,az⟩:=s.boxed;go_region_law (first|(refine fw wS _ [ι x,ι y,ι v] 165 rfl (.tmp 42) (.tmp 47) 161 rfl c.heap.size 165 i0 _ 3 24 underlying161 hi aw an ar rfl (by decide) (.slice ao b.length ac) b.length (j8 b) (by simp[Act.eval]) j (by exact(by go_grown)) wS.heap.size 1 (by simp[Act.eval]) (by exact Rz.drew (Rz.new _ _ _)) rfl (by simp[Value.oneCell']) (by omega) (by omega) (by omega) ?_;intro v' w2 Y af a0 a6 ax;obtain⟨t,h,rfl⟩:=zq Y;have E:=s.save af (qK j s (by decide));obtain⟨a1,a3,a4⟩:=E.boxed))
  all_goals
   have S:RG c.heap.size (w2.setCell ⟨i,4,none⟩ (.slice t (b.length+1) h)) (.slice t (b.length+1) h) (b++[[x,y,v]]):=by
    refine⟨?_,λr hr=>?_⟩;have:=xF Y ((RD.refl i w2).setCell 4 (.slice t (b.length+1) h)) E (by decide);simpa [j8,Sf] using this;rcases zW.1 hr with q|q;exact ah r q;simp at q;rw[q];rfl
   have J:=E.set 4 (.slice t (b.length+1) h);simp at J;have X:μ c (w2.setCell ⟨i,4,none⟩ (.slice t (b.length+1) h)):=(ab.trans (af.below (λx hx=>yX j (xb hx)) am)).setCell (p:=⟨i,4,none⟩) D _;have ad:Hid (vd c.heap.size (w2.setCell ⟨i,4,none⟩ (.slice t (b.length+1) h)) i tb [x,y,v] (b++[[x,y,v]])):=⟨_,_,_,_,rfl,D,J,S⟩;go_wp2_with (go_at_call 167;refine(ag.out _ (by exact X)).mono ?_;rintro e u ⟨rfl,H⟩;obtain rfl:=H.symm)
   go_roundg m
   case measure=>omega
   exact⟨v+1,_,_,rfl,rfl,ad,H2,by omega,X⟩
 exact z9 av (by omega)
def Tk(h:World)(tb:Nat)(T:zj)(fp:List Nat)(k:ya lo h tb T fp)(j:Nat):∀(n:Nat) (w:World) (a level:Nat) (row:zi) (b:List zi) (c:zi×List zi),xQ T n a level 0 row b=some c->level<3->c.2.length<=1048576->μ h w->vd h.heap.size w j tb row b →
  Calls prog 127 #[(π j),ι a,ι level] w λe o=>e=ε (.tuple #[])/\vd h.heap.size o j tb c.1 c.2/\μ h o:=by
 intro n;induction n using Nat.strongRecOn with
 |_ n l=>
  intro w a level row b c g m f i d;obtain rfl|rfl|rfl:level=0∨level=1∨level=2:=by omega
  exact Nd h tb T fp k j n l w a row b c g f i d;exact P7 h tb T fp k j n l w a row b c g f i d;exact G1 h tb T fp k j n l w a row b c g f i d
def Ga(w:World)(tb:Nat)(T:zj)(fp:List Nat)(l:ya lo w tb T fp)(n:Nat)(rs:List zi)(a:lD n T=some rs)(b:rs.length<=1048576):
  Calls prog 78 #[(π tb)] w λe k=>∃v,e=.returned v/\RG w.heap.size k v rs/\μ w k:=by
 unfold lD at a;rcases j:xQ T n 0 0 0 [0,0,0] [] with _|i;rw[j] at a;cases a;rw[j] at a;simp only[jC,zr] at a;subst a;have hrel:vd w.heap.size (w.alloc (.cells #[(π tb),ι 0,ι 0,ι 0,ν] 223)) w.heap.size tb [0,0,0] []:=⟨0,0,0,_,rfl,zf _,Rz.new _ _ _,yW _ _ _ _,by simp⟩;have m:=Ry (Tk w tb T fp l w.heap.size n _ 0 0 _ _ i j (by omega) b zP hrel);go_enter func78,ntmps78;go_wp2_with (go_at_call 127;refine m.out.mono ?_;rintro e s ⟨rfl,g,d⟩;obtain⟨x,y,z,r,_,_,h,c⟩:=g;have f:=Ry c;clear c;obtain⟨q,p,o⟩:=h.boxed)
 go_ret;exact⟨_,rfl,f.out,d⟩
def kh(t:yd):Value×Value×Value:=(.bool t.var,ι t.num,ι t.level)
structure yn (lo:Nat) (w:World) (v:Value) (ts:List yd):Prop where
 own:w.ownsRow lo 284 3 v ts.length (RQ (ts.map kh))
 len:ts.length<=1000
 num:∀t∈ts,t.num<=1000000/\t.level<=1000000
def yn.below{w w':World}{v:Value}{ts:List yd}(h:yn lo w v ts)(a:μ w w'):yn lo w' v ts:=⟨zB h.own a,h.len,h.num⟩
def yn.qy{w:World}{v:Value}{ts:List yd}(h:yn lo w v ts):∃b a,v=.slice b ts.length a:=zq h.own
def yn.cell{w:World}{b:Option Addr}{n cap:Nat}{ts:List yd}(h:yn lo w (.slice b n cap) ts)(k:Nat)(i:k<ts.length):∃g,b=some ⟨g,0,none⟩/\g<w.heap.size/\w.cell? ⟨g,k*3,none⟩=some (.bool ts[k].var)/\w.cell? ⟨g,k*3+1,none⟩=some (ι (ts[k].num:Nat))/\w.cell? ⟨g,k*3+2,none⟩=some (ι (ts[k].level:Nat)):=by
 obtain⟨g,f,d,_,j,_⟩:=yw h.own (by omega);simp only[Value.slice.injEq] at d;obtain⟨rfl,_,_⟩:=d;obtain⟨_,c,a,e⟩:=tC h.own k (by simpa using i);simp only[xV,kh] at c a e;exact⟨g,rfl,j,c,a,e⟩
def Ss{α:Type}(l:List α)(p:α->Bool)(k:Nat)(a:k<l.length):(l.take (k+1)).any p=((l.take k).any p||p l[k]):=by
 rw[yP a,List.any_append];simp
def Fg{α:Type}(l:List α)(p:α->Bool)(k:Nat)(a:k<l.length)(h:p l[k]=true):l.any p=true:=gi.2 ⟨_,zt a,h⟩
def BE(w:World)(v:Value)(f c:Nat)(ts:List yd)(h:yn lo w v ts):
  Calls prog 202 #[.agg #[ι f,v],ι c] w λe A=>e=ε (.bool (zJ ⟨f,ts⟩ c))/\μ w A:=by
 obtain⟨H,C,rfl⟩:=h.qy;have I:=h.len;go_enter func202,ntmps202;go_wp2;go_loopw [10] (λq wr=>∃k:Nat,k<=ts.length/\q=ι k/\Hid ((ts.take k).any (λt=>t.var&&t.num == c)=false)/\μ w wr) (λi _=>ts.length-(intOf i).toNat);exact⟨0,zv _,rfl,rfl,(by go_grown)⟩;obtain⟨k,G,rfl,s,a⟩:=hrel;have b:=a.size;by_cases d:k<ts.length
 .obtain⟨g,rfl,l,E,z,y⟩:=h.cell k d;have n:=zl a l E;have B:=zl a l z;have x:=zl a l y;have r:=Ry (Ss ts (λt=>t.var&&t.num == c) k d);have F:=Ry (Fg ts (λt=>t.var&&t.num == c) k d);generalize ts[k]=t at *;cases u:t.var
  .rw[u] at n r;go_wp2;go_roundw;exact⟨k+1,by omega,by go_num,(by rw[r.out,s.out];rfl),a.alloc b _⟩;simp[intOf];omega
  by_cases m:t.num=c
  .have j:Hid (zJ ⟨f,ts⟩ c=true):=F.out (by simp[u,m]);subst m;go_wp2;go_ret;exact⟨by rw[j.out];rfl,a.alloc b _⟩
  have p:Hid ((t.var&&t.num == c)=false):=by simp[Hid,m]
  have o:Hid ((ts.take (k+1)).any (λt=>t.var&&t.num == c)=false):=by rw[Hid,r.out,s.out,p.out];rfl
  go_wp2;go_roundw;exact⟨k+1,by omega,by go_num,o,a.alloc b _⟩;simp[intOf];omega
 have D:Hid (zJ ⟨f,ts⟩ c=false):=by
  have:=s.out;rw[xk (by omega)] at this;exact this
 go_wp2;go_ret;exact⟨by rw[D.out];rfl,a⟩
def Ex(p:Nat->Bool)(k:Nat):(List.range (k+1)).countP p=(List.range k).countP p+(if p k then 1 else 0):=by
 rw[List.range_succ,List.countP_append];simp[List.countP_cons]
def DZ(w:World)(v:Value)(a b:Nat)(ts:List yd)(h:yn lo w v ts)(H:b<=1000000):
  Calls prog 187 #[.agg #[ι a,v],ι b] w λe C=>e=ε (qY (yV ⟨a,ts⟩ b))/\μ w C:=by
 have u:=Ry λW p m=>BE W v a p ts (h.below m);cases f:zJ ⟨a,ts⟩ b
 .have y:Hid (yV ⟨a,ts⟩ b=none):=by simp[Hid,yV,f]
  have x:=Ry λW m=>by have q:=u.out W b m;rw[f] at q;exact q
  go_enter func187,ntmps187;go_wp2_with (go_at_call 202;refine(x.out _ (by exact(by go_grown))).mono ?_;rintro e n ⟨rfl,c⟩;have j:μ w n:=zM (by go_grown) c (zf _))
  go_ret2
  exact⟨by rw[y.out];rfl,j⟩
 have y:Hid (yV ⟨a,ts⟩ b=some ((List.range b).countP (zJ ⟨a,ts⟩))):=by simp[Hid,yV,f]
 have x:=Ry λW m=>by have q:=u.out W b m;rw[f] at q;exact q
 go_enter func187,ntmps187;go_wp2_with (go_at_call 202;refine(x.out _ (by exact(by go_grown))).mono ?_;rintro e n ⟨rfl,c⟩;have j:μ w n:=zM (by go_grown) c (zf _);have z:=(Rz.new w #[ι a,v] 204).below c)
 go_loopw [6,7] (λD A wr=>∃k:Nat,k<=b/\A=ι k/\D=ι ((List.range k).countP (zJ ⟨a,ts⟩):Nat)/\μ n wr) (λ_ A _=>b-(intOf A).toNat);exact⟨0,zv _,rfl,rfl,zp _ _⟩;obtain⟨k,G,rfl,rfl,d⟩:=hrel;have o:=R5 j d;have r:=z.below d;obtain⟨I,J⟩:=r.rules;have F:(List.range k).countP (zJ ⟨a,ts⟩)<=k:=by have:=sj (p:=zJ ⟨a,ts⟩) (l:=List.range k);simpa using this
 by_cases E:k<b
 .have t:=Ex (zJ ⟨a,ts⟩) k;have s:=Ry (u.out wr k o);cases f:zJ ⟨a,ts⟩ k
  .rw[f] at t s;have g:Hid ((List.range (k+1)).countP (zJ ⟨a,ts⟩)=(List.range k).countP (zJ ⟨a,ts⟩)):=by rw[Hid,t];simp
   go_wp2_with (go_at_call 202;refine s.out.mono ?_;rintro e B ⟨rfl,i⟩)
   go_roundw;exact⟨k+1,by omega,by go_num,by rw[g.out],R5 d i⟩;simp[intOf];omega
  rw[f] at t s;have g:Hid ((List.range (k+1)).countP (zJ ⟨a,ts⟩)=(List.range k).countP (zJ ⟨a,ts⟩)+1):=by rw[Hid,t];simp
  go_wp2_with (go_at_call 202;refine s.out.mono ?_;rintro e B ⟨rfl,i⟩)
  go_roundw;exact⟨k+1,by omega,by go_num,by rw[g.out];go_num,R5 d i⟩;simp[intOf];omega
 obtain rfl:k=b:=by omega
 go_wp2;go_ret2
 exact⟨by rw[y.out];rfl,o⟩
def C5(w:World)(v:Value)(a:Nat)(ts:List yd)(h:yn lo w v ts):
  Calls prog 212 #[.agg #[ι a,v]] w λe x=>e=ε (ι (yZ ⟨a,ts⟩:Nat))/\μ w x:=by
 have t:=Ry λW p s=>BE W v a p ts (h.below s);have o:=Rz.new w #[ι a,v] 204;have y:Hid (yZ ⟨a,ts⟩=(List.range 5).countP (zJ ⟨a,ts⟩)):=rfl;go_enter func212,ntmps212;go_wp2;go_loopw [3,4] (λu n wr=>∃k:Nat,k<=5/\n=ι k/\u=ι ((List.range k).countP (zJ ⟨a,ts⟩):Nat)/\Below (w.heap.size+1) (w.alloc (.cells #[ι a,v] 204)) wr) (λ_ n _=>5-(intOf n).toNat);exact⟨0,zv _,rfl,rfl,zp _ _⟩;obtain⟨k,B,rfl,rfl,b⟩:=hrel;have g:Below (w.alloc (.cells #[ι a,v] 204)).heap.size (w.alloc (.cells #[ι a,v] 204)) wr:=by simpa using b
 have f:μ w wr:=zM (by go_grown) g (zf _);have i:=o.below g;obtain⟨C,D⟩:=i.rules;have A:(List.range k).countP (zJ ⟨a,ts⟩)<=k:=by have:=sj (p:=zJ ⟨a,ts⟩) (l:=List.range k);simpa using this
 by_cases z:k<5
 .have m:=Ex (zJ ⟨a,ts⟩) k;have j:=Ry (t.out wr k f);cases q:zJ ⟨a,ts⟩ k
  .rw[q] at m j;have c:Hid ((List.range (k+1)).countP (zJ ⟨a,ts⟩)=(List.range k).countP (zJ ⟨a,ts⟩)):=by rw[Hid,m];simp
   go_wp2_with (go_at_call 202;refine j.out.mono ?_;rintro e r ⟨rfl,d⟩)
   go_roundw;exact⟨k+1,by omega,by go_num,by rw[c.out],zM b d (by simp)⟩;simp[intOf];omega
  rw[q] at m j;have c:Hid ((List.range (k+1)).countP (zJ ⟨a,ts⟩)=(List.range k).countP (zJ ⟨a,ts⟩)+1):=by rw[Hid,m];simp
  go_wp2_with (go_at_call 202;refine j.out.mono ?_;rintro e r ⟨rfl,d⟩)
  go_roundw;exact⟨k+1,by omega,by go_num,by rw[c.out];go_num,zM b d (by simp)⟩;simp[intOf];omega
 obtain rfl:k=5:=by omega
 go_wp2;go_ret;exact⟨by rw[y.out];rfl,f⟩
def sp{α β:Type}(l:List α)(f:β->α->β)(b:β)(k:Nat)(a:k<l.length):(l.take (k+1)).foldl f b=f ((l.take k).foldl f b) l[k]:=by
 rw[yP a,jr];rfl
def fx(k:Nat)(t:yd):Nat:=if t.var&&decide (t.num≥k) then t.num+1 else k
def Ld(l:zw):uU l=l.qg.foldl fx 0:=rfl
def E6(w:World)(v:Value)(j:Nat)(ts:List yd)(h:yn lo w v ts):
  Calls prog 222 #[.agg #[ι j,v]] w λe y=>e=ε (ι (uU ⟨j,ts⟩:Nat))/\μ w y:=by
 obtain⟨F,A,rfl⟩:=h.qy;have G:=h.len;have B:Hid (uU ⟨j,ts⟩=ts.foldl fx 0):=Ld _;go_enter func222,ntmps222;go_wp2;go_loopw [3,9] (λs r wr=>∃k:Nat,k<=ts.length/\r=ι k/\s=ι ((ts.take k).foldl fx 0:Nat)/\μ w wr) (λ_ i _=>ts.length-(intOf i).toNat);exact⟨0,zv _,rfl,rfl,(by go_grown)⟩;obtain⟨k,E,rfl,rfl,a⟩:=hrel;have b:=a.size;by_cases d:k<ts.length
 .obtain⟨g,rfl,f,C,u,q⟩:=h.cell k d;have x:=zl a f C;have z:=zl a f u;have p:=zl a f q;have D:=(h.num _ (zt d)).1;have m:=Ry (sp ts fx 0 k d);generalize ts[k]=t at *;generalize (ts.take k).foldl fx 0=l at *;cases o:t.var
  .have c:Hid ((ts.take (k+1)).foldl fx 0=l):=by rw[Hid,m.out];simp[fx,o]
   go_wp2;go_roundw;exact⟨k+1,by omega,by go_num,by rw[c.out],a.alloc b _⟩;simp[intOf];omega
  by_cases n:t.num≥l
  .have c:Hid ((ts.take (k+1)).foldl fx 0=t.num+1):=by rw[Hid,m.out];simp[fx,o,n]
   go_wp2;go_roundw;exact⟨k+1,by omega,by go_num,by rw[c.out];go_num,a.alloc b _⟩;simp[intOf];omega
  have c:Hid ((ts.take (k+1)).foldl fx 0=l):=by rw[Hid,m.out];simp[fx,n]
  go_wp2;go_roundw;exact⟨k+1,by omega,by go_num,by rw[c.out],a.alloc b _⟩;simp[intOf];omega
 rw[xk (by omega)];go_wp2;go_ret;exact⟨by rw[B.out];rfl,a⟩
def gq(je k:Int)(t:yd):Int:=if t.var&&decide ((t.num:Int)<je)&&decide ((t.num:Int)>k) then(t.num:Int) else k
def ID(l:zw)(je:Int):jQ l je=l.qg.foldl (gq je) (-1):=rfl
def Ct(w:World)(v:Value)(n:Nat)(d:Int)(ts:List yd)(h:yn lo w v ts):
  Calls prog 225 #[.agg #[ι n,v],ι d] w λe z=>e=ε (ι (jQ ⟨n,ts⟩ d))/\μ w z:=by
 obtain⟨G,B,rfl⟩:=h.qy;have H:=h.len;have C:Hid (jQ ⟨n,ts⟩ d=ts.foldl (gq d) (-1)):=ID _ _;go_enter func225,ntmps225;go_wp2;go_loopw [5,11] (λE o wr=>∃k:Nat,k<=ts.length/\o=ι k/\E=ι ((ts.take k).foldl (gq d) (-1))/\μ w wr) (λ_ i _=>ts.length-(intOf i).toNat);exact⟨0,zv _,rfl,rfl,(by go_grown)⟩;obtain⟨k,F,rfl,rfl,a⟩:=hrel;have c:=a.size;by_cases f:k<ts.length
 .obtain⟨g,rfl,m,D,x,u⟩:=h.cell k f;have y:=zl a m D;have A:=zl a m x;have s:=zl a m u;have l:=Ry (sp ts (gq d) (-1) k f);generalize ts[k]=t at *;generalize (ts.take k).foldl (gq d) (-1)=j at *;cases q:t.var
  .have b:Hid ((ts.take (k+1)).foldl (gq d) (-1)=j):=by rw[Hid,l.out];simp[gq,q]
   go_wp2;go_roundw;exact⟨k+1,by omega,by go_num,by rw[b.out],a.alloc c _⟩;simp[intOf];omega
  by_cases p:(t.num:Int)<d
  .by_cases r:(t.num:Int)>j
   .have b:Hid ((ts.take (k+1)).foldl (gq d) (-1)=(t.num:Int)):=by rw[Hid,l.out];simp[gq,q,p,r]
    go_wp2;go_roundw;exact⟨k+1,by omega,by go_num,by rw[b.out],a.alloc c _⟩;simp[intOf];omega
   have b:Hid ((ts.take (k+1)).foldl (gq d) (-1)=j):=by rw[Hid,l.out];simp[gq,r]
   go_wp2;go_roundw;exact⟨k+1,by omega,by go_num,by rw[b.out],a.alloc c _⟩;simp[intOf];omega
  have b:Hid ((ts.take (k+1)).foldl (gq d) (-1)=j):=by rw[Hid,l.out];simp[gq,p]
  go_wp2;go_roundw;exact⟨k+1,by omega,by go_num,by rw[b.out],a.alloc c _⟩;simp[intOf];omega
 rw[xk (by omega)];go_wp2;go_ret;exact⟨by rw[C.out];rfl,a⟩
def Bk(w:World)(v:Value)(a:Nat)(d:Int)(ts:List yd)(h:yn lo w v ts):
  Calls prog 226 #[.agg #[ι a,v],ι d] w λe n=>e=ε (ι (qC ⟨a,ts⟩ d))/\μ w n:=by
 have m:=Ry λW k=>E6 W v a ts (h.below k);have p:=Ry λW k=>Ct W v a d ts (h.below k);have f:Hid (qC ⟨a,ts⟩ d=if (uU ⟨a,ts⟩:Int)<=d then -1 else jQ ⟨a,ts⟩ d):=rfl;generalize uU ⟨a,ts⟩=o at *;by_cases l:(o:Int)<=d
 .rw[zb l] at f;go_enter func226,ntmps226;go_wp2_with (go_at_call 222;refine(m.out _ (by exact(by go_grown))).mono ?_;rintro e g ⟨rfl,b⟩;have c:μ w g:=zM (by go_grown) b (zf _))
  go_ret;exact⟨by rw[f.out];rfl,c⟩
 rw[za l] at f;go_enter func226,ntmps226;go_wp2_with (first|(go_at_call 222;refine(m.out _ (by exact(by go_grown))).mono ?_;rintro e g ⟨rfl,b⟩;have c:μ w g:=zM (by go_grown) b (zf _);have j:=(Rz.new w #[ι a,v] 204).below b;obtain⟨t,r,s⟩:=j.boxed)|(go_at_call 225;refine(p.out _ c).mono ?_;rintro e q ⟨rfl,i⟩))
 go_ret;exact⟨by rw[f.out];rfl,R5 c i⟩
def BQ(a b:Nat):((a:Int) == (b:Int))=(a == b):=by
 by_cases h:a=b;subst h;rw[beq_self_eq_true,beq_self_eq_true];rw[beq_eq_false_iff_ne.2 (by omega:(a:Int)≠(b:Int)),beq_eq_false_iff_ne.2 h]
def n4(t:yd):Value:=.agg #[.bool t.var,ι t.num,ι t.level]
def Tn(x y z:Nat):Value:=.agg #[ι x,ι y,ι z]
def rt(a b c d e:Nat):Value:=.agg #[ι a,ι b,ι c,ι d,ι e]
def iZ(w:World)(t:yd)(a b c d e:Nat):
  Calls prog 188 #[n4 t,rt a b c d e] w λr j=>r=ε (ι (SG t [a,b,c,d,e]:Nat))/\μ w j:=by
 obtain⟨i,n,g⟩:=t;unfold n4 rt;simp only;cases i
 .have f:Hid (SG ⟨false,n,g⟩ [a,b,c,d,e]=n):=rfl;go_enter func188,ntmps188;go_wp2;go_ret;exact⟨by rw[f.out];rfl,(by go_grown)⟩
 by_cases h:n<5
 .have f:Hid (SG ⟨true,n,g⟩ [a,b,c,d,e]=[a,b,c,d,e].getD n 0):=by simp[Hid,SG,h]
  obtain rfl|rfl|rfl|rfl|rfl:n=0∨n=1∨n=2∨n=3∨n=4:=by omega
  all_goals
   go_enter func188,ntmps188;go_wp2;go_ret;exact⟨by rw[f.out];rfl,(by go_grown)⟩
 have f:Hid (SG ⟨true,n,g⟩ [a,b,c,d,e]=n):=by simp[Hid,SG,h]
 go_enter func188,ntmps188;go_wp2;go_ret;exact⟨by rw[f.out];rfl,(by go_grown)⟩
def en(w:World)(t:yd):
  Calls prog 218 #[n4 t] w λr e=>r=ε (.bool (leveled t))/\μ w e:=by
 obtain⟨d,n,b⟩:=t;unfold n4;simp only;cases d
 .have a:Hid (leveled ⟨false,n,b⟩=false):=rfl;go_enter func218,ntmps218;go_wp2;go_ret;exact⟨by rw[a.out];rfl,(by go_grown)⟩
 by_cases c:b<3
 .have a:Hid (leveled ⟨true,n,b⟩=true):=by simp[Hid,leveled,c]
  go_enter func218,ntmps218;go_wp2;go_ret;exact⟨by rw[a.out];simp;omega,(by go_grown)⟩
 have a:Hid (leveled ⟨true,n,b⟩=false):=by simp[Hid,leveled,c]
 go_enter func218,ntmps218;go_wp2;go_ret;exact⟨by rw[a.out];simp;omega,(by go_grown)⟩
def ow(w:World)(t:yd)(v x y z:Nat):
  Calls prog 219 #[n4 t,ι v,Tn x y z] w λr l=>r=ε (.bool (jO t v [x,y,z]))/\μ w l:=by
 have e:=Ry λW=>en W t;have j:Hid (jO t v [x,y,z]=if leveled t then [x,y,z].getD t.level 0 == v else t.num == v):=rfl;have d:leveled t=true->t.level<3:=by simp[leveled]
 generalize leveled t=m at *;obtain⟨g,n,f⟩:=t;unfold n4 at e ⊢;unfold Tn;simp only at e d j ⊢;cases m
 .go_enter func219,ntmps219;go_wp2_with (go_at_call 218;refine(e.out _).mono ?_;rintro r i ⟨rfl,a⟩;have b:μ w i:=zM (by go_grown) a (zf _);have c:=((Rz.new w #[.bool g,ι n,ι f] 284).below ((zp _ _).alloc (zf _) (.cells #[ι x,ι y,ι z] 165))).below a;obtain⟨q,s,p⟩:=c.boxed)
  go_ret;exact⟨by rw[j.out];simp[BQ],b⟩
 have A:=d rfl;obtain rfl|rfl|rfl:f=0∨f=1∨f=2:=by omega
 all_goals
  go_enter func219,ntmps219;go_wp2_with (go_at_call 218;refine(e.out _).mono ?_;rintro r i ⟨rfl,a⟩;have b:μ w i:=zM (by go_grown) a (zf _);have c:=((Rz.new w #[.bool g,ι n,ι _] 284).below ((zp _ _).alloc (zf _) (.cells #[ι x,ι y,ι z] 165))).below a;obtain⟨q,s,p⟩:=c.boxed;have h:=(Rz.newAt (w.alloc (.cells #[.bool g,ι n,ι _] 284)) (w.heap.size+1) #[ι x,ι y,ι z] 165 (by simp)).below a;obtain⟨u,k,o⟩:=h.boxed)
  go_ret;exact⟨by rw[j.out];simp[BQ],b⟩
def m6(l:zw)(vals:List Nat):Nat->Array Value
 |0=>#[ι 0,ι 0,ι 0]
 |1=>#[ι ((R0 l vals 0:Nat):Int),ι 0,ι 0]
 |2=>#[ι ((R0 l vals 0:Nat):Int),ι ((R0 l vals 1:Nat):Int),ι 0]
 |_=>#[ι ((R0 l vals 0:Nat):Int),ι ((R0 l vals 1:Nat):Int),ι ((R0 l vals 2:Nat):Int)]
def ik(w:World)(v:Value)(o:Nat)(ts:List yd)(a b c d e:Nat)(h:yn lo w v ts):
  Calls prog 161 #[.agg #[ι o,v],rt a b c d e] w λr X=>r=ε (.agg #[ι ((R0 ⟨o,ts⟩ [a,b,c,d,e] 0:Nat):Int),ι ((R0 ⟨o,ts⟩ [a,b,c,d,e] 1:Nat):Int),ι ((R0 ⟨o,ts⟩ [a,b,c,d,e] 2:Nat):Int)])/\μ w X:=by
 obtain⟨ao,ac,rfl⟩:=h.qy;have hl:=h.len;unfold rt;go_enter func161,ntmps161;go_wp2;go_loopw [7] (λv7 wr=>∃k:Nat,k<=3/\v7=ι k/\Rz wr w.heap.size #[ι o,.slice ao ts.length ac] 204/\Rz wr (w.heap.size+1) #[ι a,ι b,ι c,ι d,ι e] 262/\Rz wr (w.heap.size+2) #[ι 0,ι 0,ι 0] 165/\Rz wr (w.heap.size+3) (m6 ⟨o,ts⟩ [a,b,c,d,e] k) 165/\μ w wr) (λi _=>3-(intOf i).toNat);exact⟨0,by omega,rfl,(((Rz.new w _ _).below zP).below zP).below zP,((Rz.newAt _ _ _ _ (by simp)).below zP).below zP,(Rz.newAt _ _ _ _ (by simp)).below zP,Rz.newAt _ _ _ _ (by simp),(by go_grown)⟩;obtain⟨k,hk,rfl,z,A,B,F,j⟩:=hrel;obtain⟨aj,ah,ag⟩:=z.boxed;obtain⟨am,ak,al⟩:=A.boxed;have ae:=j.size;match k,hk with
 |0,_=>
  have l:Rz wr (w.heap.size+3) #[ι 0,ι 0,ι 0] 165:=F;obtain⟨aa,Z,Y⟩:=l.boxed;by_cases u:0<ts.length
  .obtain⟨g,E,D,U,S,Q⟩:=h.cell 0 u;subst E;have K:=zl j D U;have M:=zl j D S;have G:=zl j D Q;simp only[Nat.reduceMul,Nat.reduceAdd] at K M G;have ab:g<wr.heap.size:=by omega
   have C:Hid (R0 ⟨o,ts⟩ [a,b,c,d,e] 0=SG ts[0] [a,b,c,d,e]):=by simp[Hid,R0,u,List.getD_eq_getElem?_getD]
   have y:Hid (∀W,Calls prog 188 #[.agg #[.bool ts[0].var,ι (ts[0].num:Nat),ι (ts[0].level:Nat)],.agg #[ι a,ι b,ι c,ι d,ι e]] W λr X=>r=ε (ι ((R0 ⟨o,ts⟩ [a,b,c,d,e] 0:Nat):Int))/\μ W X):=λW=>by rw[C.out];exact iZ W ts[0] a b c d e
   clear U S Q C;generalize ts[0]=t at *;obtain⟨s,x⟩:∃s,s=R0 ⟨o,ts⟩ [a,b,c,d,e] 0:=⟨_,rfl⟩;rw[←x] at y;have N:=Ry x.symm;clear x;go_wp2;go_region_with (go_at_call 188;refine(y.out _).mono ?_;rintro r w2 ⟨rfl,J⟩;have f:μ wr w2:=(zM (by go_grown) J (zf _));have m:=l.below f;obtain⟨T,R,V⟩:=m.boxed)
   all_goals
    have n:=m.set 0 (ι s);simp at n;have O:=(z.below f).set_ne (show w.heap.size≠w.heap.size+3 from by omega) 0 (ι s);have L:=(A.below f).set_ne (show w.heap.size+1≠w.heap.size+3 from by omega) 0 (ι s);have H:=(B.below f).set_ne (show w.heap.size+2≠w.heap.size+3 from by omega) 0 (ι s);have I:=(R5 j f).setCell (p:=⟨w.heap.size+3,0,none⟩) (by simp) (ι s);go_wp2;go_roundw;exact⟨1,by omega,rfl,O,L,H,(by simp only[m6,N.out];exact n),I⟩;simp[intOf]
  have C:Hid (R0 ⟨o,ts⟩ [a,b,c,d,e] 0=0):=by simp[Hid,R0,u]
  have P:ts.length<=0:=by omega
  go_wp2;go_roundw;exact⟨1,by omega,rfl,z,A,B,(by have q:=l;simp only[m6,C.out];exact q),j⟩;simp[intOf]
 |1,_=>
  have l:Rz wr (w.heap.size+3) #[ι ((R0 ⟨o,ts⟩ [a,b,c,d,e] 0:Nat):Int),ι 0,ι 0] 165:=F;obtain⟨aa,Z,Y⟩:=l.boxed;by_cases u:1<ts.length
  .obtain⟨g,E,D,U,S,Q⟩:=h.cell 1 u;subst E;have K:=zl j D U;have M:=zl j D S;have G:=zl j D Q;simp only[Nat.reduceMul,Nat.reduceAdd] at K M G;have ab:g<wr.heap.size:=by omega
   have C:Hid (R0 ⟨o,ts⟩ [a,b,c,d,e] 1=SG ts[1] [a,b,c,d,e]):=by simp[Hid,R0,u,List.getD_eq_getElem?_getD]
   have y:Hid (∀W,Calls prog 188 #[.agg #[.bool ts[1].var,ι (ts[1].num:Nat),ι (ts[1].level:Nat)],.agg #[ι a,ι b,ι c,ι d,ι e]] W λr X=>r=ε (ι ((R0 ⟨o,ts⟩ [a,b,c,d,e] 1:Nat):Int))/\μ W X):=λW=>by rw[C.out];exact iZ W ts[1] a b c d e
   clear U S Q C;generalize ts[1]=t at *;obtain⟨s,x⟩:∃s,s=R0 ⟨o,ts⟩ [a,b,c,d,e] 1:=⟨_,rfl⟩;rw[←x] at y;have N:=Ry x.symm;clear x;go_wp2;go_region_with (go_at_call 188;refine(y.out _).mono ?_;rintro r w2 ⟨rfl,J⟩;have f:μ wr w2:=(zM (by go_grown) J (zf _));have m:=l.below f;obtain⟨T,R,V⟩:=m.boxed)
   all_goals
    have n:=m.set 1 (ι s);simp at n;have O:=(z.below f).set_ne (show w.heap.size≠w.heap.size+3 from by omega) 1 (ι s);have L:=(A.below f).set_ne (show w.heap.size+1≠w.heap.size+3 from by omega) 1 (ι s);have H:=(B.below f).set_ne (show w.heap.size+2≠w.heap.size+3 from by omega) 1 (ι s);have I:=(R5 j f).setCell (p:=⟨w.heap.size+3,1,none⟩) (by simp) (ι s);go_wp2;go_roundw;exact⟨2,by omega,rfl,O,L,H,(by simp only[m6,N.out];exact n),I⟩;simp[intOf]
  have C:Hid (R0 ⟨o,ts⟩ [a,b,c,d,e] 1=0):=by simp[Hid,R0,u]
  have P:ts.length<=1:=by omega
  go_wp2;go_roundw;exact⟨2,by omega,rfl,z,A,B,(by have q:=l;simp only[m6,C.out];exact q),j⟩;simp[intOf]
 |2,_=>
  have l:Rz wr (w.heap.size+3) #[ι ((R0 ⟨o,ts⟩ [a,b,c,d,e] 0:Nat):Int),ι ((R0 ⟨o,ts⟩ [a,b,c,d,e] 1:Nat):Int),ι 0] 165:=F;obtain⟨aa,Z,Y⟩:=l.boxed;by_cases u:2<ts.length
  .obtain⟨g,E,D,U,S,Q⟩:=h.cell 2 u;subst E;have K:=zl j D U;have M:=zl j D S;have G:=zl j D Q;simp only[Nat.reduceMul,Nat.reduceAdd] at K M G;have ab:g<wr.heap.size:=by omega
   have C:Hid (R0 ⟨o,ts⟩ [a,b,c,d,e] 2=SG ts[2] [a,b,c,d,e]):=by simp[Hid,R0,u,List.getD_eq_getElem?_getD]
   have y:Hid (∀W,Calls prog 188 #[.agg #[.bool ts[2].var,ι (ts[2].num:Nat),ι (ts[2].level:Nat)],.agg #[ι a,ι b,ι c,ι d,ι e]] W λr X=>r=ε (ι ((R0 ⟨o,ts⟩ [a,b,c,d,e] 2:Nat):Int))/\μ W X):=λW=>by rw[C.out];exact iZ W ts[2] a b c d e
   clear U S Q C;generalize ts[2]=t at *;obtain⟨s,x⟩:∃s,s=R0 ⟨o,ts⟩ [a,b,c,d,e] 2:=⟨_,rfl⟩;rw[←x] at y;have N:=Ry x.symm;clear x;go_wp2;go_region_with (go_at_call 188;refine(y.out _).mono ?_;rintro r w2 ⟨rfl,J⟩;have f:μ wr w2:=(zM (by go_grown) J (zf _));have m:=l.below f;obtain⟨T,R,V⟩:=m.boxed)
   all_goals
    have n:=m.set 2 (ι s);simp at n;have O:=(z.below f).set_ne (show w.heap.size≠w.heap.size+3 from by omega) 2 (ι s);have L:=(A.below f).set_ne (show w.heap.size+1≠w.heap.size+3 from by omega) 2 (ι s);have H:=(B.below f).set_ne (show w.heap.size+2≠w.heap.size+3 from by omega) 2 (ι s);have I:=(R5 j f).setCell (p:=⟨w.heap.size+3,2,none⟩) (by simp) (ι s);go_wp2;go_roundw;exact⟨3,by omega,rfl,O,L,H,(by simp only[m6,N.out];exact n),I⟩;simp[intOf]
  have C:Hid (R0 ⟨o,ts⟩ [a,b,c,d,e] 2=0):=by simp[Hid,R0,u]
  have P:ts.length<=2:=by omega
  go_wp2;go_roundw;exact⟨3,by omega,rfl,z,A,B,(by have q:=l;simp only[m6,C.out];exact q),j⟩;simp[intOf]
 |3,_=>
  simp only[m6] at F;obtain⟨aa,Z,Y⟩:=F.boxed;obtain⟨ad,af,ai⟩:=B.boxed;go_wp2;exact zO (v:=.agg #[ι ((R0 ⟨o,ts⟩ [a,b,c,d,e] 0:Nat):Int),ι ((R0 ⟨o,ts⟩ [a,b,c,d,e] 1:Nat):Int),ι ((R0 ⟨o,ts⟩ [a,b,c,d,e] 2:Nat):Int)]) (by simp[results,results161,go_sem,ad]) rfl ⟨rfl,((j.setCell (p:=⟨w.heap.size+2,0,none⟩) (by simp) _).setCell (p:=⟨w.heap.size+2,1,none⟩) (by simp) _).setCell (p:=⟨w.heap.size+2,2,none⟩) (by simp) _⟩
def vw(l:zw)(row:zi):Nat->zi
 |0=>[0,0,0]
 |k+1=>qO l row (vw l row k) k
def LI{l:zw}{row f:zi}(a:uz l row=f):xO l row=if (xJ l row f 0&&xJ l row f 1&&xJ l row f 2)=true then some f else none:=by unfold xO;rw[a]
def Im(l:zw)(row:zi):uz l row=vw l row 3:=rfl
def Mb(w:World)(v:Value)(B:Nat)(ts:List yd)(j f r2:Nat)(h:yn lo w v ts):
  Calls prog 213 #[.agg #[ι B,v],Tn j f r2] w λr E=>(∃x y z:Nat,r=ε (.tuple #[Tn x y z,.bool (xO ⟨B,ts⟩ [j,f,r2]).isSome])/\[x,y,z]=(xO ⟨B,ts⟩ [j,f,r2]).getD [0,0,0])/\μ w E:=by
 obtain⟨ao,af,rfl⟩:=h.qy;have hl:=h.len;have aA:=QJ (ι j) (ι f) (ι r2);have aC:=QH (ι j) (ι f) (ι r2);have aB:=Rn (ι j) (ι f) (ι r2);unfold Tn;go_enter func213,ntmps213;go_wp2;go_loopw [12] (λa8 wr=>∃k x y z:Nat,k<=3/\a8=ι k/\Rz wr w.heap.size #[ι B,.slice ao ts.length af] 204/\Rz wr (w.heap.size+1) #[ι j,ι f,ι r2] 165/\Rz wr (w.heap.size+2) #[ι 0,ι 0,ι 0] 165/\Rz wr (w.heap.size+3) #[ι (x:Nat),ι (y:Nat),ι (z:Nat)] 165/\Hid (vw ⟨B,ts⟩ [j,f,r2] k=[x,y,z])/\μ w wr) (λi _=>3-(intOf i).toNat);exact⟨0,0,0,0,by omega,rfl,(((Rz.new w _ _).below zP).below zP).below zP,((Rz.newAt _ _ _ _ (by simp)).below zP).below zP,(Rz.newAt _ _ _ _ (by simp)).below zP,Rz.newAt _ _ _ _ (by simp),rfl,(by go_grown)⟩;obtain⟨k,x,y,z,hk,rfl,n,s,q,m,S,b⟩:=hrel;obtain⟨a3,a2,au⟩:=n.boxed;obtain⟨a0,az,a5⟩:=s.boxed;obtain⟨ay,av,a4⟩:=m.boxed;have aq:=b.size;match k,hk with
 |0,_=>
  by_cases C:0<ts.length
  .have o:Hid (vw ⟨B,ts⟩ [j,f,r2] 1=if leveled ts[0]=true then [x,y,z].set ts[0].level j else [x,y,z]):=by
    rw[Hid,vw,S.out];simp[qO,C,List.getD_eq_getElem?_getD]
   obtain⟨g,P,Q,X,V,h2⟩:=h.cell 0 C;subst P;have L:=zl b Q X;have N:=zl b Q V;have H:=zl b Q h2;simp only[Nat.reduceMul,Nat.reduceAdd] at L N H;have D:g<wr.heap.size:=by omega
   have T:Hid (∀W,Calls prog 218 #[.agg #[.bool ts[0].var,ι (ts[0].num:Nat),ι (ts[0].level:Nat)]] W λr E=>r=ε (.bool (leveled ts[0]))/\μ W E):=λW=>en W ts[0];have O:leveled ts[0]=true->ts[0].level<3:=by simp[leveled]
   clear X V h2;generalize ts[0]=t at *;generalize leveled t=lb at *;cases lb
   .simp only[gQ,if_false] at o;go_wp2_with (go_at_call 218;refine(T.out _).mono ?_;rintro r w2 ⟨rfl,c⟩)
    go_roundw;exact⟨1,x,y,z,by omega,rfl,n.below c,s.below c,q.below c,m.below c,o,R5 b c⟩;simp[intOf]
   simp only[if_true] at o;have a1:=O rfl;clear O;generalize ah:t.level=lv at *;clear ah;go_wp2_with (go_at_call 218;refine(T.out _).mono ?_;rintro r w2 ⟨rfl,c⟩;have a:=c;have u:=n.below c;obtain⟨ad,Z,Y⟩:=u.boxed;have ag:=zl c D H;have A:=m.below c;obtain⟨ac,aa,U⟩:=A.boxed;have ak:=(yE D c.size);obtain rfl|rfl|rfl:lv=0∨lv=1∨lv=2:=(by omega))
   .have I:Hid (vw ⟨B,ts⟩ [j,f,r2] 1=[j,y,z]):=by rw[Hid,o.out];rfl
    have d:=(m.below a).set 0 (ι j);simp at d;have G:=(n.below a).set_ne (show w.heap.size≠w.heap.size+3 from by omega) 0 (ι j);have K:=(s.below a).set_ne (show w.heap.size+1≠w.heap.size+3 from by omega) 0 (ι j);have J:=(q.below a).set_ne (show w.heap.size+2≠w.heap.size+3 from by omega) 0 (ι j);have F:=(R5 b a).setCell (p:=⟨w.heap.size+3,0,none⟩) (by simp) (ι j);go_wp2;go_roundw;exact⟨1,j,y,z,by omega,rfl,G,K,J,d,I,F⟩;simp[intOf]
   .have I:Hid (vw ⟨B,ts⟩ [j,f,r2] 1=[x,j,z]):=by rw[Hid,o.out];rfl
    have d:=(m.below a).set 1 (ι j);simp at d;have G:=(n.below a).set_ne (show w.heap.size≠w.heap.size+3 from by omega) 1 (ι j);have K:=(s.below a).set_ne (show w.heap.size+1≠w.heap.size+3 from by omega) 1 (ι j);have J:=(q.below a).set_ne (show w.heap.size+2≠w.heap.size+3 from by omega) 1 (ι j);have F:=(R5 b a).setCell (p:=⟨w.heap.size+3,1,none⟩) (by simp) (ι j);go_wp2;go_roundw;exact⟨1,x,j,z,by omega,rfl,G,K,J,d,I,F⟩;simp[intOf]
   have I:Hid (vw ⟨B,ts⟩ [j,f,r2] 1=[x,y,j]):=by rw[Hid,o.out];rfl
   have d:=(m.below a).set 2 (ι j);simp at d;have G:=(n.below a).set_ne (show w.heap.size≠w.heap.size+3 from by omega) 2 (ι j);have K:=(s.below a).set_ne (show w.heap.size+1≠w.heap.size+3 from by omega) 2 (ι j);have J:=(q.below a).set_ne (show w.heap.size+2≠w.heap.size+3 from by omega) 2 (ι j);have F:=(R5 b a).setCell (p:=⟨w.heap.size+3,2,none⟩) (by simp) (ι j);go_wp2;go_roundw;exact⟨1,x,y,j,by omega,rfl,G,K,J,d,I,F⟩;simp[intOf]
  have o:Hid (vw ⟨B,ts⟩ [j,f,r2] 1=[x,y,z]):=by
   rw[Hid,vw,S.out];simp[qO,C]
  have ap:ts.length<=0:=by omega
  go_wp2;go_roundw;exact⟨1,x,y,z,by omega,rfl,n,s,q,m,o,b⟩;simp[intOf]
 |1,_=>
  by_cases C:1<ts.length
  .have o:Hid (vw ⟨B,ts⟩ [j,f,r2] 2=if leveled ts[1]=true then [x,y,z].set ts[1].level f else [x,y,z]):=by
    rw[Hid,vw,S.out];simp[qO,C,List.getD_eq_getElem?_getD]
   obtain⟨g,P,Q,X,V,h2⟩:=h.cell 1 C;subst P;have L:=zl b Q X;have N:=zl b Q V;have H:=zl b Q h2;simp only[Nat.reduceMul,Nat.reduceAdd] at L N H;have D:g<wr.heap.size:=by omega
   have T:Hid (∀W,Calls prog 218 #[.agg #[.bool ts[1].var,ι (ts[1].num:Nat),ι (ts[1].level:Nat)]] W λr E=>r=ε (.bool (leveled ts[1]))/\μ W E):=λW=>en W ts[1];have O:leveled ts[1]=true->ts[1].level<3:=by simp[leveled]
   clear X V h2;generalize ts[1]=t at *;generalize leveled t=lb at *;cases lb
   .simp only[gQ,if_false] at o;go_wp2_with (go_at_call 218;refine(T.out _).mono ?_;rintro r w2 ⟨rfl,c⟩)
    go_roundw;exact⟨2,x,y,z,by omega,rfl,n.below c,s.below c,q.below c,m.below c,o,R5 b c⟩;simp[intOf]
   simp only[if_true] at o;have a1:=O rfl;clear O;generalize ah:t.level=lv at *;clear ah;go_wp2_with (go_at_call 218;refine(T.out _).mono ?_;rintro r w2 ⟨rfl,c⟩;have a:=c;have u:=n.below c;obtain⟨ad,Z,Y⟩:=u.boxed;have ag:=zl c D H;have A:=m.below c;obtain⟨ac,aa,U⟩:=A.boxed;have ak:=(yE D c.size);obtain rfl|rfl|rfl:lv=0∨lv=1∨lv=2:=(by omega))
   .have I:Hid (vw ⟨B,ts⟩ [j,f,r2] 2=[f,y,z]):=by rw[Hid,o.out];rfl
    have d:=(m.below a).set 0 (ι f);simp at d;have G:=(n.below a).set_ne (show w.heap.size≠w.heap.size+3 from by omega) 0 (ι f);have K:=(s.below a).set_ne (show w.heap.size+1≠w.heap.size+3 from by omega) 0 (ι f);have J:=(q.below a).set_ne (show w.heap.size+2≠w.heap.size+3 from by omega) 0 (ι f);have F:=(R5 b a).setCell (p:=⟨w.heap.size+3,0,none⟩) (by simp) (ι f);go_wp2;go_roundw;exact⟨2,f,y,z,by omega,rfl,G,K,J,d,I,F⟩;simp[intOf]
   .have I:Hid (vw ⟨B,ts⟩ [j,f,r2] 2=[x,f,z]):=by rw[Hid,o.out];rfl
    have d:=(m.below a).set 1 (ι f);simp at d;have G:=(n.below a).set_ne (show w.heap.size≠w.heap.size+3 from by omega) 1 (ι f);have K:=(s.below a).set_ne (show w.heap.size+1≠w.heap.size+3 from by omega) 1 (ι f);have J:=(q.below a).set_ne (show w.heap.size+2≠w.heap.size+3 from by omega) 1 (ι f);have F:=(R5 b a).setCell (p:=⟨w.heap.size+3,1,none⟩) (by simp) (ι f);go_wp2;go_roundw;exact⟨2,x,f,z,by omega,rfl,G,K,J,d,I,F⟩;simp[intOf]
   have I:Hid (vw ⟨B,ts⟩ [j,f,r2] 2=[x,y,f]):=by rw[Hid,o.out];rfl
   have d:=(m.below a).set 2 (ι f);simp at d;have G:=(n.below a).set_ne (show w.heap.size≠w.heap.size+3 from by omega) 2 (ι f);have K:=(s.below a).set_ne (show w.heap.size+1≠w.heap.size+3 from by omega) 2 (ι f);have J:=(q.below a).set_ne (show w.heap.size+2≠w.heap.size+3 from by omega) 2 (ι f);have F:=(R5 b a).setCell (p:=⟨w.heap.size+3,2,none⟩) (by simp) (ι f);go_wp2;go_roundw;exact⟨2,x,y,f,by omega,rfl,G,K,J,d,I,F⟩;simp[intOf]
  have o:Hid (vw ⟨B,ts⟩ [j,f,r2] 2=[x,y,z]):=by
   rw[Hid,vw,S.out];simp[qO,C]
  have ap:ts.length<=1:=by omega
  go_wp2;go_roundw;exact⟨2,x,y,z,by omega,rfl,n,s,q,m,o,b⟩;simp[intOf]
 |2,_=>
  by_cases C:2<ts.length
  .have o:Hid (vw ⟨B,ts⟩ [j,f,r2] 3=if leveled ts[2]=true then [x,y,z].set ts[2].level r2 else [x,y,z]):=by
    rw[Hid,vw,S.out];simp[qO,C,List.getD_eq_getElem?_getD]
   obtain⟨g,P,Q,X,V,h2⟩:=h.cell 2 C;subst P;have L:=zl b Q X;have N:=zl b Q V;have H:=zl b Q h2;simp only[Nat.reduceMul,Nat.reduceAdd] at L N H;have D:g<wr.heap.size:=by omega
   have T:Hid (∀W,Calls prog 218 #[.agg #[.bool ts[2].var,ι (ts[2].num:Nat),ι (ts[2].level:Nat)]] W λr E=>r=ε (.bool (leveled ts[2]))/\μ W E):=λW=>en W ts[2];have O:leveled ts[2]=true->ts[2].level<3:=by simp[leveled]
   clear X V h2;generalize ts[2]=t at *;generalize leveled t=lb at *;cases lb
   .simp only[gQ,if_false] at o;go_wp2_with (go_at_call 218;refine(T.out _).mono ?_;rintro r w2 ⟨rfl,c⟩)
    go_roundw;exact⟨3,x,y,z,by omega,rfl,n.below c,s.below c,q.below c,m.below c,o,R5 b c⟩;simp[intOf]
   simp only[if_true] at o;have a1:=O rfl;clear O;generalize ah:t.level=lv at *;clear ah;go_wp2_with (go_at_call 218;refine(T.out _).mono ?_;rintro r w2 ⟨rfl,c⟩;have a:=c;have u:=n.below c;obtain⟨ad,Z,Y⟩:=u.boxed;have ag:=zl c D H;have A:=m.below c;obtain⟨ac,aa,U⟩:=A.boxed;have ak:=(yE D c.size);obtain rfl|rfl|rfl:lv=0∨lv=1∨lv=2:=(by omega))
   .have I:Hid (vw ⟨B,ts⟩ [j,f,r2] 3=[r2,y,z]):=by rw[Hid,o.out];rfl
    have d:=(m.below a).set 0 (ι r2);simp at d;have G:=(n.below a).set_ne (show w.heap.size≠w.heap.size+3 from by omega) 0 (ι r2);have K:=(s.below a).set_ne (show w.heap.size+1≠w.heap.size+3 from by omega) 0 (ι r2);have J:=(q.below a).set_ne (show w.heap.size+2≠w.heap.size+3 from by omega) 0 (ι r2);have F:=(R5 b a).setCell (p:=⟨w.heap.size+3,0,none⟩) (by simp) (ι r2);go_wp2;go_roundw;exact⟨3,r2,y,z,by omega,rfl,G,K,J,d,I,F⟩;simp[intOf]
   .have I:Hid (vw ⟨B,ts⟩ [j,f,r2] 3=[x,r2,z]):=by rw[Hid,o.out];rfl
    have d:=(m.below a).set 1 (ι r2);simp at d;have G:=(n.below a).set_ne (show w.heap.size≠w.heap.size+3 from by omega) 1 (ι r2);have K:=(s.below a).set_ne (show w.heap.size+1≠w.heap.size+3 from by omega) 1 (ι r2);have J:=(q.below a).set_ne (show w.heap.size+2≠w.heap.size+3 from by omega) 1 (ι r2);have F:=(R5 b a).setCell (p:=⟨w.heap.size+3,1,none⟩) (by simp) (ι r2);go_wp2;go_roundw;exact⟨3,x,r2,z,by omega,rfl,G,K,J,d,I,F⟩;simp[intOf]
   have I:Hid (vw ⟨B,ts⟩ [j,f,r2] 3=[x,y,r2]):=by rw[Hid,o.out];rfl
   have d:=(m.below a).set 2 (ι r2);simp at d;have G:=(n.below a).set_ne (show w.heap.size≠w.heap.size+3 from by omega) 2 (ι r2);have K:=(s.below a).set_ne (show w.heap.size+1≠w.heap.size+3 from by omega) 2 (ι r2);have J:=(q.below a).set_ne (show w.heap.size+2≠w.heap.size+3 from by omega) 2 (ι r2);have F:=(R5 b a).setCell (p:=⟨w.heap.size+3,2,none⟩) (by simp) (ι r2);go_wp2;go_roundw;exact⟨3,x,y,r2,by omega,rfl,G,K,J,d,I,F⟩;simp[intOf]
  have o:Hid (vw ⟨B,ts⟩ [j,f,r2] 3=[x,y,z]):=by
   rw[Hid,vw,S.out];simp[qO,C]
  have ap:ts.length<=2:=by omega
  go_wp2;go_roundw;exact⟨3,x,y,z,by omega,rfl,n,s,q,m,o,b⟩;simp[intOf]
 |3,_=>
  have HM:Hid (xO ⟨B,ts⟩ [j,f,r2]=if (xJ ⟨B,ts⟩ [j,f,r2] [x,y,z] 0&&xJ ⟨B,ts⟩ [j,f,r2] [x,y,z] 1&&xJ ⟨B,ts⟩ [j,f,r2] [x,y,z] 2)=true then some [x,y,z] else none):=LI ((Im _ _).trans S.out);clear S;rw[show((3:Nat):Int)=3 from rfl];go_wp2;have o:Hid (Rz wr w.heap.size #[ι B,.slice ao ts.length af] 204/\Rz wr (w.heap.size+1) #[ι j,ι f,ι r2] 165/\Rz wr (w.heap.size+2) #[ι 0,ι 0,ι 0] 165/\Rz wr (w.heap.size+3) #[ι x,ι y,ι z] 165/\μ w wr):=⟨n,s,q,m,b⟩;clear a3 a2 au a0 az a5 ay av a4 aq n s q m b;go_loopw [39] (λa6 wr=>∃k:Nat,k<=3/\a6=ι k/\Rz wr w.heap.size #[ι B,.slice ao ts.length af] 204/\Rz wr (w.heap.size+1) #[ι j,ι f,ι r2] 165/\Rz wr (w.heap.size+2) #[ι 0,ι 0,ι 0] 165/\Rz wr (w.heap.size+3) #[ι x,ι y,ι z] 165/\Hid (∀i,i<k->xJ ⟨B,ts⟩ [j,f,r2] [x,y,z] i=true)/\μ w wr) (λi _=>3-(intOf i).toNat);obtain⟨q1,q2,q3,q4,q5⟩:=o.out;exact⟨0,by omega,rfl,q1,q2,q3,q4,(λi hi=>by omega),q5⟩;clear o;obtain⟨k,hk,rfl,n,s,q,m,HA,b⟩:=hrel;obtain⟨a3,a2,au⟩:=n.boxed;obtain⟨a0,az,a5⟩:=s.boxed;obtain⟨ay,av,a4⟩:=m.boxed;obtain⟨a7,aD,a9⟩:=q.boxed;have aq:=b.size;match k,hk with
  |0,_=>
   by_cases C:0<ts.length
   .have M:Hid (xJ ⟨B,ts⟩ [j,f,r2] [x,y,z] 0=jO ts[0] j [x,y,z]):=by unfold xJ;rw[Hid,decide_eq_false (show ¬ts.length<=0 by omega)];simp[List.getD_eq_getElem?_getD,C]
    obtain⟨g,P,Q,X,V,h2⟩:=h.cell 0 C;subst P;have L:=zl b Q X;have N:=zl b Q V;have H:=zl b Q h2;simp only[Nat.reduceMul,Nat.reduceAdd] at L N H;have D:g<wr.heap.size:=by omega
    have an:(0:Int)<(ts.length:Int):=by omega
    have ai:Hid (∀W,Calls prog 219 #[.agg #[.bool ts[0].var,ι (ts[0].num:Nat),ι (ts[0].level:Nat)],ι j,.agg #[ι x,ι y,ι z]] W λr E=>r=ε (.bool (jO ts[0] j [x,y,z]))/\μ W E):=λW=>ow W ts[0] j x y z;clear X V h2;generalize ts[0]=t at *;generalize jO t j [x,y,z]=ab at *;go_wp2;go_region_held3 (λE=>E.cell? ⟨w.heap.size,1,none⟩=some (.slice (some ⟨g,0,none⟩) ts.length af)/\E.cell? ⟨g,0,none⟩=some (.bool t.var)/\E.cell? ⟨g,1,none⟩=some (ι t.num)/\E.cell? ⟨g,2,none⟩=some (ι t.level)/\E.cell? ⟨w.heap.size+1+1+1,0,none⟩=some (ι x)/\E.cell? ⟨w.heap.size+1+1+1,1,none⟩=some (ι y)/\E.cell? ⟨w.heap.size+1+1+1,2,none⟩=some (ι z)) (first|go_keep|(go_simp;done)) (first|(go_at_call 219;refine(ai.out _).mono ?_;rintro r w2 ⟨rfl,c⟩;have l:μ wr w2:=(zM (by go_grown) c (zf _));have u:=n.below l;obtain⟨ad,Z,Y⟩:=u.boxed;have A:=m.below l;obtain⟨ac,aa,U⟩:=A.boxed;have aw:=zl l D L;have ax:=zl l D N;have ag:=(zl l D H)))
    cases ab
    .have S:Hid (xO ⟨B,ts⟩ [j,f,r2]=none):=by rw[Hid,HM.out,M.out];simp
     have aj:=q.below l;obtain⟨ae,am,al⟩:=aj.boxed;go_wp2;exact zO (v:=.tuple #[.agg #[ι 0,ι 0,ι 0],.bool false]) (by simp[results,results213,go_sem,ae]) rfl ⟨⟨0,0,0,by rw[S.out];rfl,by rw[S.out];rfl⟩,(((R5 b l).setCell (p:=⟨w.heap.size+2,0,none⟩) (by simp) _).setCell (p:=⟨w.heap.size+2,1,none⟩) (by simp) _).setCell (p:=⟨w.heap.size+2,2,none⟩) (by simp) _⟩
    have R:Hid (∀i,i<1->xJ ⟨B,ts⟩ [j,f,r2] [x,y,z] i=true):=λi hi=>by
     by_cases e:i=0;subst e;exact M.out;exact HA.out i (by omega)
    go_wp2;go_roundw;exact⟨1,by omega,rfl,u,s.below l,q.below l,A,R,R5 b l⟩;simp[intOf]
   have M:Hid (xJ ⟨B,ts⟩ [j,f,r2] [x,y,z] 0=true):=by unfold xJ;rw[Hid,decide_eq_true (show ts.length<=0 by omega)];rfl
   have R:Hid (∀i,i<1->xJ ⟨B,ts⟩ [j,f,r2] [x,y,z] i=true):=λi hi=>by
    by_cases e:i=0;subst e;exact M.out;exact HA.out i (by omega)
   have ar:decide ((0:Int)<(ts.length:Int))=false:=decide_eq_false (by omega);go_wp2;go_quiet (fail)
   go_wp2;go_roundw;exact⟨1,by omega,rfl,n.below (zI (zp _ _) _),s.below (zI (zp _ _) _),q.below (zI (zp _ _) _),m.below (zI (zp _ _) _),R,zI b _⟩;simp[intOf]
  |1,_=>
   by_cases C:1<ts.length
   .have M:Hid (xJ ⟨B,ts⟩ [j,f,r2] [x,y,z] 1=jO ts[1] f [x,y,z]):=by unfold xJ;rw[Hid,decide_eq_false (show ¬ts.length<=1 by omega)];simp[List.getD_eq_getElem?_getD,C]
    obtain⟨g,P,Q,X,V,h2⟩:=h.cell 1 C;subst P;have L:=zl b Q X;have N:=zl b Q V;have H:=zl b Q h2;simp only[Nat.reduceMul,Nat.reduceAdd] at L N H;have D:g<wr.heap.size:=by omega
    have an:(1:Int)<(ts.length:Int):=by omega
    have ai:Hid (∀W,Calls prog 219 #[.agg #[.bool ts[1].var,ι (ts[1].num:Nat),ι (ts[1].level:Nat)],ι f,.agg #[ι x,ι y,ι z]] W λr E=>r=ε (.bool (jO ts[1] f [x,y,z]))/\μ W E):=λW=>ow W ts[1] f x y z;clear X V h2;generalize ts[1]=t at *;generalize jO t f [x,y,z]=ab at *;go_wp2;go_region_held3 (λE=>E.cell? ⟨w.heap.size,1,none⟩=some (.slice (some ⟨g,0,none⟩) ts.length af)/\E.cell? ⟨g,3,none⟩=some (.bool t.var)/\E.cell? ⟨g,4,none⟩=some (ι t.num)/\E.cell? ⟨g,5,none⟩=some (ι t.level)/\E.cell? ⟨w.heap.size+1+1+1,0,none⟩=some (ι x)/\E.cell? ⟨w.heap.size+1+1+1,1,none⟩=some (ι y)/\E.cell? ⟨w.heap.size+1+1+1,2,none⟩=some (ι z)) (first|go_keep|(go_simp;done)) (first|(go_at_call 219;refine(ai.out _).mono ?_;rintro r w2 ⟨rfl,c⟩;have l:μ wr w2:=(zM (by go_grown) c (zf _));have u:=n.below l;obtain⟨ad,Z,Y⟩:=u.boxed;have A:=m.below l;obtain⟨ac,aa,U⟩:=A.boxed;have aw:=zl l D L;have ax:=zl l D N;have ag:=(zl l D H)))
    cases ab
    .have S:Hid (xO ⟨B,ts⟩ [j,f,r2]=none):=by rw[Hid,HM.out,M.out];simp
     have aj:=q.below l;obtain⟨ae,am,al⟩:=aj.boxed;go_wp2;exact zO (v:=.tuple #[.agg #[ι 0,ι 0,ι 0],.bool false]) (by simp[results,results213,go_sem,ae]) rfl ⟨⟨0,0,0,by rw[S.out];rfl,by rw[S.out];rfl⟩,(((R5 b l).setCell (p:=⟨w.heap.size+2,0,none⟩) (by simp) _).setCell (p:=⟨w.heap.size+2,1,none⟩) (by simp) _).setCell (p:=⟨w.heap.size+2,2,none⟩) (by simp) _⟩
    have R:Hid (∀i,i<2->xJ ⟨B,ts⟩ [j,f,r2] [x,y,z] i=true):=λi hi=>by
     by_cases e:i=1;subst e;exact M.out;exact HA.out i (by omega)
    go_wp2;go_roundw;exact⟨2,by omega,rfl,u,s.below l,q.below l,A,R,R5 b l⟩;simp[intOf]
   have M:Hid (xJ ⟨B,ts⟩ [j,f,r2] [x,y,z] 1=true):=by unfold xJ;rw[Hid,decide_eq_true (show ts.length<=1 by omega)];rfl
   have R:Hid (∀i,i<2->xJ ⟨B,ts⟩ [j,f,r2] [x,y,z] i=true):=λi hi=>by
    by_cases e:i=1;subst e;exact M.out;exact HA.out i (by omega)
   have ar:decide ((1:Int)<(ts.length:Int))=false:=decide_eq_false (by omega);go_wp2;go_quiet (fail)
   go_wp2;go_roundw;exact⟨2,by omega,rfl,n.below (zI (zp _ _) _),s.below (zI (zp _ _) _),q.below (zI (zp _ _) _),m.below (zI (zp _ _) _),R,zI b _⟩;simp[intOf]
  |2,_=>
   by_cases C:2<ts.length
   .have M:Hid (xJ ⟨B,ts⟩ [j,f,r2] [x,y,z] 2=jO ts[2] r2 [x,y,z]):=by unfold xJ;rw[Hid,decide_eq_false (show ¬ts.length<=2 by omega)];simp[List.getD_eq_getElem?_getD,C]
    obtain⟨g,P,Q,X,V,h2⟩:=h.cell 2 C;subst P;have L:=zl b Q X;have N:=zl b Q V;have H:=zl b Q h2;simp only[Nat.reduceMul,Nat.reduceAdd] at L N H;have D:g<wr.heap.size:=by omega
    have an:(2:Int)<(ts.length:Int):=by omega
    have ai:Hid (∀W,Calls prog 219 #[.agg #[.bool ts[2].var,ι (ts[2].num:Nat),ι (ts[2].level:Nat)],ι r2,.agg #[ι x,ι y,ι z]] W λr E=>r=ε (.bool (jO ts[2] r2 [x,y,z]))/\μ W E):=λW=>ow W ts[2] r2 x y z;clear X V h2;generalize ts[2]=t at *;generalize jO t r2 [x,y,z]=ab at *;go_wp2;go_region_held3 (λE=>E.cell? ⟨w.heap.size,1,none⟩=some (.slice (some ⟨g,0,none⟩) ts.length af)/\E.cell? ⟨g,6,none⟩=some (.bool t.var)/\E.cell? ⟨g,7,none⟩=some (ι t.num)/\E.cell? ⟨g,8,none⟩=some (ι t.level)/\E.cell? ⟨w.heap.size+1+1+1,0,none⟩=some (ι x)/\E.cell? ⟨w.heap.size+1+1+1,1,none⟩=some (ι y)/\E.cell? ⟨w.heap.size+1+1+1,2,none⟩=some (ι z)) (first|go_keep|(go_simp;done)) (first|(go_at_call 219;refine(ai.out _).mono ?_;rintro r w2 ⟨rfl,c⟩;have l:μ wr w2:=(zM (by go_grown) c (zf _));have u:=n.below l;obtain⟨ad,Z,Y⟩:=u.boxed;have A:=m.below l;obtain⟨ac,aa,U⟩:=A.boxed;have aw:=zl l D L;have ax:=zl l D N;have ag:=(zl l D H)))
    cases ab
    .have S:Hid (xO ⟨B,ts⟩ [j,f,r2]=none):=by rw[Hid,HM.out,M.out];simp
     have aj:=q.below l;obtain⟨ae,am,al⟩:=aj.boxed;go_wp2;exact zO (v:=.tuple #[.agg #[ι 0,ι 0,ι 0],.bool false]) (by simp[results,results213,go_sem,ae]) rfl ⟨⟨0,0,0,by rw[S.out];rfl,by rw[S.out];rfl⟩,(((R5 b l).setCell (p:=⟨w.heap.size+2,0,none⟩) (by simp) _).setCell (p:=⟨w.heap.size+2,1,none⟩) (by simp) _).setCell (p:=⟨w.heap.size+2,2,none⟩) (by simp) _⟩
    have R:Hid (∀i,i<3->xJ ⟨B,ts⟩ [j,f,r2] [x,y,z] i=true):=λi hi=>by
     by_cases e:i=2;subst e;exact M.out;exact HA.out i (by omega)
    go_wp2;go_roundw;exact⟨3,by omega,rfl,u,s.below l,q.below l,A,R,R5 b l⟩;simp[intOf]
   have M:Hid (xJ ⟨B,ts⟩ [j,f,r2] [x,y,z] 2=true):=by unfold xJ;rw[Hid,decide_eq_true (show ts.length<=2 by omega)];rfl
   have R:Hid (∀i,i<3->xJ ⟨B,ts⟩ [j,f,r2] [x,y,z] i=true):=λi hi=>by
    by_cases e:i=2;subst e;exact M.out;exact HA.out i (by omega)
   have ar:decide ((2:Int)<(ts.length:Int))=false:=decide_eq_false (by omega);go_wp2;go_quiet (fail)
   go_wp2;go_roundw;exact⟨3,by omega,rfl,n.below (zI (zp _ _) _),s.below (zI (zp _ _) _),q.below (zI (zp _ _) _),m.below (zI (zp _ _) _),R,zI b _⟩;simp[intOf]
  |3,_=>
   have S:Hid (xO ⟨B,ts⟩ [j,f,r2]=some [x,y,z]):=by rw[Hid,HM.out,HA.out 0 (by omega),HA.out 1 (by omega),HA.out 2 (by omega)];rfl
   go_wp2;exact zO (v:=.tuple #[.agg #[ι x,ι y,ι z],.bool true]) (by simp[results,results213,go_sem,a7]) rfl ⟨⟨x,y,z,by rw[S.out];rfl,by rw[S.out];rfl⟩,((b.setCell (p:=⟨w.heap.size+2,0,none⟩) (by simp) _).setCell (p:=⟨w.heap.size+2,1,none⟩) (by simp) _).setCell (p:=⟨w.heap.size+2,2,none⟩) (by simp) _⟩
def dF(ps:List (Nat×Value)):List Value:=ps.flatMap λx=>[ι (x.1:Nat),x.2]
def Er:∀(ps:List (Nat×Value)) (k:Nat) (a:k<ps.length),(dF ps)[k*2]?=some (ι (ps[k].1:Nat))/\(dF ps)[k*2+1]?=some ps[k].2
 |[],k,a=>by simp at a
 |p::r,0,_=>by simp[dF]
 |p::r,k+1,a=>by
  have:=Er r k (by simpa using a);simp only[dF,uA] at this ⊢;rw[show(k+1)*2=k*2+1+1 from by omega,show k*2+1+1+1=k*2+1+1+1 from rfl];simpa using this
def ui(lo:Nat)(w:World)(v:Value)(a:List zw):Prop:=∃b:List (Nat×Value),w.ownsRow lo 204 2 v a.length (dF b)/\b.length=a.length/\a.length<=1000/\∀k (d:k<a.length) (c:k<b.length),b[k].1=a[k].pred/\yn lo w b[k].2 a[k].qg/\a[k].pred<=1000000
def ui.below{w w':World}{v:Value}{d:List zw}(h:ui lo w v d)(e:μ w w'):ui lo w' v d:=by
 obtain⟨f,i,j,g,c⟩:=h;exact⟨f,zB i e,j,g,λk a b=>⟨(c k a b).1,(c k a b).2.1.below e,(c k a b).2.2⟩⟩
def ui.qy{w:World}{v:Value}{b:List zw}(h:ui lo w v b):∃c a,v=.slice c b.length a:=by obtain⟨e,d,_⟩:=h;exact zq d
def ui.len{w:World}{v:Value}{a:List zw}(h:ui lo w v a):a.length<=1000:=by obtain⟨c,_,_,b,_⟩:=h;exact b
def ui.cell{w:World}{e:Option Addr}{n cap:Nat}{c:List zw}(h:ui lo w (.slice e n cap) c)(k:Nat)(o:k<c.length):∃g b a,e=some ⟨g,0,none⟩/\g<w.heap.size/\w.cell? ⟨g,k*2,none⟩=some (ι (c[k].pred:Nat))/\w.cell? ⟨g,k*2+1,none⟩=some (.slice b c[k].qg.length a)/\yn lo w (.slice b c[k].qg.length a) c[k].qg:=by
 obtain⟨p,s,y,z,v⟩:=h;obtain⟨g,m,f,_,q,j⟩:=yw s (by omega);simp only[Value.slice.injEq] at f;obtain⟨rfl,_,_⟩:=f;obtain⟨r,t⟩:=Er p k (by omega);obtain⟨x,d,_⟩:=v k o (by omega);obtain⟨b,a,u⟩:=d.qy;have l:=j _ _ r;have i:=j _ _ t;rw[x] at l;rw[u] at i d;exact⟨g,b,a,rfl,q,l,i,d⟩
structure vx (lo:Nat) (w:World) (tv pv nv:Value) (r:zs):Prop where
 head:yn lo w tv r.head.qg
 qc:ui lo w pv r.qc
 qw:ui lo w nv r.qw
 small:r.qh<=1000000/\r.vars<=1000000/\r.head.pred<=1000000
def vx.below{w w':World}{tv c b:Value}{r:zs}(h:vx lo w tv c b r)(a:μ w w'):vx lo w' tv c b r:=⟨h.head.below a,h.qc.below a,h.qw.below a,h.small⟩
def kQ(r:zs)(tv b a:Value):Value:=.agg #[ι r.qh,ι r.vars,ι r.head.pred,tv,b,a]
def Il(w:World)(tv pv nv:Value)(r:zs)(a:Int)(h:vx lo w tv pv nv r):
  Calls prog 220 #[kQ r tv pv nv,ι a] w λe A=>e=ε (ι (xE r a))/\μ w A:=by
 obtain⟨Q,u,rfl⟩:=h.head.qy;obtain⟨V,J,rfl⟩:=h.qc.qy;obtain⟨Z,I,rfl⟩:=h.qw.qy;have an:=h.qc.len;have am:=h.qw.len;have af:Hid (∀W,μ w W->Calls prog 225 #[.agg #[ι r.head.pred,.slice Q r.head.qg.length u],ι a] W λe A=>e=ε (ι (jQ r.head a))/\μ W A):=λW G=>Ct W _ r.head.pred a r.head.qg (h.head.below G);have hP:=h.qc;have hN:=h.qw;have HE:Hid (xE r a=r.qw.foldl (vM a) (r.qc.foldl (vM a) (jQ r.head a))):=rfl;unfold kQ;clear h;have P:=Rz.new w #[ι r.qh,ι r.vars,ι r.head.pred,.slice Q r.head.qg.length u,.slice V r.qc.length J,.slice Z r.qw.length I] 207;generalize jQ r.head a=R at *;generalize r.qc=b at *;generalize r.qw=c at *;go_enter func220,ntmps220;go_wp2_with (go_at_call 225;refine(af.out _ (by exact(by go_grown))).mono ?_;rintro e w1 ⟨rfl,C⟩;have ac:μ w w1:=zM (by go_grown) C (zf _);have s:=P.below C;obtain⟨T,ai,S⟩:=s.boxed)
 clear T ai S P C;go_loopw [5,19] (λv5 ak wr=>∃k:Nat,k<=b.length/\ak=ι k/\v5=ι ((b.take k).foldl (vM a) R)/\μ w1 wr) (λ_ i _=>b.length-(intOf i).toNat);exact⟨0,zv _,rfl,rfl,zp _ _⟩;obtain⟨k,hk,rfl,rfl,p⟩:=hrel;have o:=R5 ac p;have al:=o.size;by_cases N:k<b.length
 .obtain⟨g,B,m,v,F,L,K,M⟩:=hP.cell k N;subst v;have X:=zl o F L;have aa:=zl o F K;have ah:g<wr.heap.size:=by omega
  have O:=Ry (sp b (vM a) R k N);have n:Hid (∀W,μ w W->Calls prog 226 #[.agg #[ι (b[k].pred:Nat),.slice B b[k].qg.length m],ι a] W λe A=>e=ε (ι (qC b[k] a))/\μ W A):=λW G=>Bk W _ b[k].pred a b[k].qg (M.below G);clear L K M;generalize b[k]=l at *;generalize (b.take k).foldl (vM a) R=q at *;have f:Hid (vM a q l=if qC l a>q then qC l a else q):=rfl;generalize qC l a=ti at *;by_cases j:ti>q
  .rw[zb j] at f;go_wp2_with (go_at_call 226;refine(n.out _ (by exact(by go_grown))).mono ?_;rintro e E ⟨rfl,z⟩;have x:μ wr E:=(zM (by go_grown) z (zf _)))
   go_roundw;exact⟨k+1,by omega,by go_num,by rw[O.out,f.out],R5 p x⟩;simp[intOf];omega
  rw[za j] at f;go_wp2_with (go_at_call 226;refine(n.out _ (by exact(by go_grown))).mono ?_;rintro e E ⟨rfl,z⟩;have x:μ wr E:=(zM (by go_grown) z (zf _)))
  go_roundw;exact⟨k+1,by omega,by go_num,by rw[O.out,f.out],R5 p x⟩;simp[intOf];omega
 obtain rfl:k=b.length:=by omega
 rw[uR];generalize b.foldl (vM a) R=pb at *;have H:=s.below p;obtain⟨ae,ag,aj⟩:=H.boxed;go_wp2;clear ae ag aj;obtain⟨E,ad⟩:∃E,E=wr:=⟨wr,rfl⟩;subst ad;go_loopw [5,34] (λv5 U wr=>∃k:Nat,k<=c.length/\U=ι k/\v5=ι ((c.take k).foldl (vM a) pb)/\μ w wr) (λ_ i _=>c.length-(intOf i).toNat);exact⟨0,zv _,rfl,rfl,o⟩;obtain⟨k,hk,rfl,rfl,d⟩:=hrel;have ab:=d.size;by_cases t:k<c.length
 .obtain⟨g,B,m,v,F,L,K,M⟩:=hN.cell k t;subst v;have X:=zl d F L;have aa:=zl d F K;have ah:g<wr.heap.size:=by omega
  have O:=Ry (sp c (vM a) pb k t);have n:Hid (∀W,μ w W->Calls prog 226 #[.agg #[ι (c[k].pred:Nat),.slice B c[k].qg.length m],ι a] W λe A=>e=ε (ι (qC c[k] a))/\μ W A):=λW G=>Bk W _ c[k].pred a c[k].qg (M.below G);clear L K M;generalize c[k]=l at *;generalize (c.take k).foldl (vM a) pb=q at *;have f:Hid (vM a q l=if qC l a>q then qC l a else q):=rfl;generalize qC l a=ti at *;by_cases j:ti>q
  .rw[zb j] at f;go_wp2_with (go_at_call 226;refine(n.out _ (by exact(by go_grown))).mono ?_;rintro e Y ⟨rfl,D⟩;have y:μ wr Y:=(zM (by go_grown) D (zf _)))
   go_roundw;exact⟨k+1,by omega,by go_num,by rw[O.out,f.out],R5 d y⟩;simp[intOf];omega
  rw[za j] at f;go_wp2_with (go_at_call 226;refine(n.out _ (by exact(by go_grown))).mono ?_;rintro e Y ⟨rfl,D⟩;have y:μ wr Y:=(zM (by go_grown) D (zf _)))
  go_roundw;exact⟨k+1,by omega,by go_num,by rw[O.out,f.out],R5 d y⟩;simp[intOf];omega
 obtain rfl:k=c.length:=by omega
 rw[uR];go_wp2;go_ret;exact⟨by rw[HE.out];rfl,d⟩
end
section
variable {lo:Nat}{w:World}{jb:Nat}
def five{α:Type}{l:List α}(h:l.length=5):∃a b c d e,l=[a,b,c,d,e]:=by
 match l,h with
 |[a,b,c,d,e],_=>exact⟨a,b,c,d,e,rfl⟩
abbrev V4:=Value×Value×Value×Value
def fa(t:V4):List Value:=[t.1,t.2.1,t.2.2.1,t.2.2.2]
def y6(a:List V4):List Value:=a.flatMap fa
def tH(b:List V4):(y6 b).length=b.length*4:=by
 induction b with
 |nil=>rfl
 |cons a l c=>simp[y6,fa] at c ⊢;omega
def sN:∀(a:List V4) (k:Nat) (b:k<a.length),(y6 a)[k*4]?=some a[k].1/\(y6 a)[k*4+1]?=some a[k].2.1/\(y6 a)[k*4+2]?=some a[k].2.2.1/\(y6 a)[k*4+3]?=some a[k].2.2.2
 |[],k,b=>by simp at b
 |y::r,0,_=>by simp[y6,fa]
 |y::r,k+1,b=>by
  have:=sN r k (by simpa using b);simp only[y6,uA,fa] at this ⊢;rw[show(k+1)*4=k*4+1+1+1+1 from by omega,show k*4+1+1+1+1+2=k*4+2+1+1+1+1 from by omega,show k*4+1+1+1+1+3=k*4+3+1+1+1+1 from by omega];simpa using this
def dQ(s:yS)(t:Nat×List Nat):V4:=(.pointer (some ⟨t.1,0,none⟩),ι (s.qi.getD 0 0:Nat),ι (s.qi.getD 1 0:Nat),ι (s.qi.getD 2 0:Nat))
def gz(b:sT)(t:Value×Nat×List Nat):V4:=(ι b.lit.pred,t.1,ι b.je,.pointer (some ⟨t.2.1,0,none⟩))
def km(hs:List (Nat×Nat)):List Value:=hs.flatMap λh=>[ι (h.1:Nat),ι (h.2:Nat)]
structure x9 where
 tv:Value
 sv:Value
 bv:Value
 hvs:List Value
 tbs:List (Nat×List Nat)
 bps:List (Value×Nat×List Nat)
def uw(J:z7)(P:x9):List Value:=
 [ι J.head.pred,P.tv,ι J.vars,P.sv,P.bv]++P.hvs++J.jh.map (Value.int .i64)++[ι J.last]++J.jd.map Sf++J.from.map Sf++[ι J.ql,ι J.jg]
structure RR (lo:Nat) (w:World) (jb:Nat) (J:z7) (P:x9):Prop where
 low:lo<=jb
 box:Rz w jb (uw J P).toArray 310
 head:yn lo w P.tv J.head.qg
 ja:w.ownsRow lo 323 4 P.sv J.ja.length (y6 (List.zipWith dQ J.ja P.tbs))
 slen:P.tbs.length=J.ja.length
 tries:∀k (_:k<J.ja.length) (_:k<P.tbs.length),ya lo w P.tbs[k].1 J.ja[k].rows P.tbs[k].2
 qi:∀s∈J.ja,s.qi.length=3
 bars:w.ownsRow lo 325 4 P.bv J.bars.length (y6 (List.zipWith gz J.bars P.bps))
 blen:P.bps.length=J.bars.length
 jk:∀k (_:k<J.bars.length) (_:k<P.bps.length),yn lo w P.bps[k].1 J.bars[k].lit.qg/\ya lo w P.bps[k].2.1 J.bars[k].rows P.bps[k].2.2
 hlen:P.hvs.length=5/\J.jf.length=5
 jf:∀p (_:p<J.jf.length) (_:p<P.hvs.length),w.ownsRow lo 327 2 P.hvs[p] J.jf[p].length (km J.jf[p])/\J.jf[p].length<=1000/\∀h∈J.jf[p],h.1<=1000000/\h.2<=1000000
 jl:J.jh.length=5/\J.jd.length=5/\J.from.length=5
 few:J.ja.length<=1000/\J.bars.length<=1000/\J.vars<=1000000
def ya.notin{tb:Nat}{T:zj}{fp:List Nat}(h:ya lo w tb T fp){b:Nat}{c:Array Value}{t:TypeId}(f:Rz w b c t)(l:t≠229)(k:t≠273)(j:t≠3):b∉fp:=by
 obtain⟨m,n,d,rfl⟩:=h;intro a;simp only[S3,zy,zW] at a;rcases a with a|a|a;subst a;have q:=d.box;unfold Rz at q f;rw[f] at q;simp at q;exact l q.2;exact vD d.qi f (Ne.symm k) (xb a) rfl;obtain⟨i,g,e|e⟩:=Aj a;exact vD (d.leap i (by rw[←d.len];exact g) g) f (Ne.symm j) (b:=b) (by rw[e];rfl) rfl;exact vD (d.down i (by rw[←d.len];exact g) g) f (Ne.symm j) (b:=b) (by rw[e];rfl) rfl
def yn.save{w':World}{v:Value}{ts:List yd}{N:List Nat}(h:yn lo w v ts)(hs:zc N w w')(a:∀b,v.ownBlock=some b->b∉N):yn lo w' v ts:=⟨yK h.own hs a,h.len,h.num⟩
def RR.below{w w':World}{jb:Nat}{J:z7}{P:x9}(h:RR lo w jb J P)(c:μ w w'):RR lo w' jb J P:=
 ⟨h.low,h.box.below c,h.head.below c,zB h.ja c,h.slen,λk a b=>(h.tries k a b).below c,h.qi,zB h.bars c,h.blen,λk a b=>⟨(h.jk k a b).1.below c,(h.jk k a b).2.below c⟩,h.hlen,λp a b=>⟨zB (h.jf p a b).1 c,(h.jf p a b).2⟩,h.jl,h.few⟩
def RR.rebox{w':World}{J c:z7}{P:x9}(h:RR lo w jb J P)(hs:zc [jb] w w')(n:Rz w' jb (uw c P).toArray 310)(C:c.head=J.head)(f:c.ja=J.ja)(g:c.bars=J.bars)(m:c.jf=J.jf)(y:c.vars=J.vars)(D:c.jh.length=5/\c.jd.length=5/\c.from.length=5):RR lo w' jb c P:=by
 have i:∀{u:Nat} {e:TypeId} {x:Nat} {v:Value} {A:Nat} {t:List Value},w.ownsRow u e x v A t->e≠310->∀b,v.ownBlock=some b->b∉[jb]:=λE B b l j=>vD E h.box B l (by simpa using j);have o:∀{q:Nat} {T:zj} {s:List Nat},ya lo w q T s->ya lo w' q T s:=λr=>r.save hs (λb z j=>by simp at j;subst j;exact r.notin h.box (by decide) (by decide) (by decide) z);refine⟨h.low,n,by rw[C];exact h.head.save hs (i h.head.own (by decide)),by rw[f];exact yK h.ja hs (i h.ja (by decide)),by rw[f];exact h.slen,λk a b=>?_,by rw[f];exact h.qi,by rw[g];exact yK h.bars hs (i h.bars (by decide)),by rw[g];exact h.blen,λk a b=>?_,by rw[m];exact h.hlen,λp a b=>?_,D,by rw[f,g,y];exact h.few⟩;have d:k<J.ja.length:=by rw[←f];exact a
 simp only[f];exact o (h.tries k d b);have d:k<J.bars.length:=by rw[←g];exact a
 simp only[g];exact⟨(h.jk k d b).1.save hs (i (h.jk k d b).1.own (by decide)),o (h.jk k d b).2⟩;have d:p<J.jf.length:=by rw[←m];exact a
 simp only[m];exact⟨yK (h.jf p d b).1 hs (i (h.jf p d b).1 (by decide)),(h.jf p d b).2⟩
def RR.at{J:z7}{P:x9}(h:RR lo w jb J P):jb<w.heap.size/\(∀o,w.frozen? ⟨jb,o,none⟩=false)/\w.cell? ⟨jb,0,none⟩=some (ι J.head.pred)/\w.cell? ⟨jb,1,none⟩=some P.tv/\w.cell? ⟨jb,2,none⟩=some (ι J.vars)/\w.cell? ⟨jb,3,none⟩=some P.sv/\w.cell? ⟨jb,4,none⟩=some P.bv/\w.cell? ⟨jb,15,none⟩=some (ι J.last)/\w.cell? ⟨jb,26,none⟩=some (ι J.ql)/\w.cell? ⟨jb,27,none⟩=some (ι J.jg):=by
 obtain⟨f,i⟩:=h.box.rules;obtain⟨a,e,j⟩:=h.jl;obtain⟨m,q,n,y,B,g⟩:=five h.hlen.1;obtain⟨p,l,C,t,z,c⟩:=five a;obtain⟨u,v,E,k,x,d⟩:=five e;obtain⟨s,A,D,F,r,b⟩:=five j;refine⟨h.box.lt,i,?_,?_,?_,?_,?_,?_,?_,?_⟩<;>rw[f]<;>simp[uw,g,c,d,b]
def RR.setMoves{J:z7}{P:x9}(h:RR lo w jb J P)(m:Int):RR lo (w.setCell ⟨jb,27,none⟩ (ι m)) jb {J with jg:=m} P:=by
 obtain⟨a,f,i⟩:=h.jl;refine h.rebox (zc.set _ _ _ _) ?_ rfl rfl rfl rfl rfl h.jl;obtain⟨l,p,n,x,A,g⟩:=five h.hlen.1;obtain⟨o,k,B,s,y,d⟩:=five a;obtain⟨t,u,D,j,v,e⟩:=five f;obtain⟨r,z,C,E,q,c⟩:=five i;have b:=h.box.set 27 (ι m);simpa [uw,g,d,e,c] using b
def E1(w:World)(jb:Nat)(J:z7)(P:x9)(s l:Nat)(h:RR lo w jb J P):
  Calls prog 231 #[(π jb),.agg #[ι s,ι l]] w λe o=>e=ε (.bool (vI J (s,l)))/\μ w o:=by
 obtain⟨m,k,_,_,_,i,_⟩:=h.at;obtain⟨p,j,g⟩:=zq h.ja;have b:Hid (vI J (s,l)=(decide (s<J.ja.length)&&decide (l<3))):=rfl;generalize J.ja.length=n at *;by_cases c:s<n
 .by_cases f:l<3
  .have a:(s:Int)<(n:Int):=by omega
   have d:(l:Int)<3:=by omega
   go_enter func231,ntmps231;go_wp2;go_quiet (fail)
   go_wp2;go_ret;exact⟨by rw[b.out];simp[c,f],zI (by go_grown) _⟩
  have a:(s:Int)<(n:Int):=by omega
  have d:decide ((l:Int)<3)=false:=decide_eq_false (by omega);go_enter func231,ntmps231;go_wp2;go_quiet (fail)
  go_wp2;go_ret;exact⟨by rw[b.out];simp[c,f],zI (by go_grown) _⟩
 have a:decide ((s:Int)<(n:Int))=false:=decide_eq_false (by omega);go_enter func231,ntmps231;go_wp2;go_quiet (fail)
 go_wp2;go_ret;exact⟨by rw[b.out];simp[c],zI (by go_grown) _⟩
end
end Go.Proofs.YteampbddflhngaaGreat
