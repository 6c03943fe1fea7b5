import Derived.Test.YteampbddflhngaaGreatX36
namespace Go.Proofs.YteampbddflhngaaGreat
set_option linter.all false
set_option maxRecDepth 100000
set_option maxHeartbeats 4000000
open Go.Proofs.Tryz Go.RowKit
theorem Ac(w:World)(f:Nat)(k a b c:Int)(s:ByteArray)(d:k=7∨k=11):
  Calls prog 94 #[.pointer (some ⟨f,0,none⟩),.agg #[.int .i64 k,.int .i64 a,.int .i64 b,.int .i64 c,.string s]] w fun e g=>e=.returned (.bool false)/\Below w.heap.size w g:=by
 rcases d with rfl|rfl
 all_goals
  go_enter func94,ntmps94;go_wp2;go_ret;exact⟨rfl,(by repeat'(first|with_reducible(first|apply zR|assumption|apply zN|apply zA|apply zD|apply zS)|go_size))⟩
theorem I1(B:Nat)(w:World)(g:Nat)(ps:List vd)(rs:List vy)(row:List ByteArray)(j n f:Value)(h:Qm B w g ps rs row j n f)(p:vd)(R:p∈ps)(a b c:Int)(s:ByteArray)(D:-9223372036854775808<=b/\b<=9223372036854775807)(hc:-9223372036854775808<=c/\c<=9223372036854775807)(hn:rs.length<=1048576):
  Calls prog 96 #[.pointer (some ⟨g,0,none⟩),.agg #[.pointer (some ⟨p.1,0,none⟩),.pointer (some ⟨p.2.1,0,none⟩)],.agg #[.int .i64 7,.int .i64 a,.int .i64 b,.int .i64 c,.string s]] w fun e d=>qK B w g ps.length rs.length row.length e d:=by
 have A:Hid (∀W,Below w.heap.size w W->Calls prog 17 #[.pointer (some ⟨g,0,none⟩),.agg #[.pointer (some ⟨p.1,0,none⟩),.pointer (some ⟨p.2.1,0,none⟩)],.slice none 0 0,.bool true,.int .i64 b,.int .i64 c] W fun e d=>en B W g ps rs row j n f e d):=fun W o=>by
  by_cases Z:b<0∨1048576<b∨c<0∨1048576<c
  ·exact KS B W g ps rs row j n f (h.below o) _ _ b c (by omega) (by omega) Z
  ·obtain⟨E,rfl⟩:∃E:Nat,b=(E:Int):=⟨b.toNat,by omega⟩;obtain⟨K,rfl⟩:∃K:Nat,c=(K:Int):=⟨c.toNat,by omega⟩;exact IY B W g ps rs row j n f (h.below o) p R E K (by omega) (by omega) hn
 have J:=zT h.low (jT h.box.lt);have z:∀b∈g::n.ownBlock.toList,b<w.heap.size:=fun b D=>by
  rcases zu.1 D with rfl|D
  ·exact h.box.lt
  ·exact yU h.ors (yw D)
 have y:=Px z;have HW:=Px h;have v:Hid (∀W,Below w.heap.size w W->W.cell? ⟨g,7,none⟩=some (.slice none 0 0)/\W.cell? ⟨g,8,none⟩=some (.bool true)/\g<W.heap.size):=fun W o=>by
  have q:=h.box.below o;exact⟨by rw[q.rules.1];rfl,by rw[q.rules.1];rfl,q.lt⟩
 clear h z R;generalize p.1=r at *;generalize p.2.1=u at *;go_enter func96,ntmps96;go_upto_region 3 with fail
 have C:Hid (Below w.heap.size w ((w.alloc (.cells #[.pointer (some ⟨r,0,none⟩),.pointer (some ⟨u,0,none⟩)] 40)).alloc (.cells #[.int .i64 7,.int .i64 a,.int .i64 b,.int .i64 c,.string s] 67))):=(show Below w.heap.size w _ from(by repeat'(first|with_reducible(first|apply zR|assumption|apply zN|apply zA|apply zD|apply zS)|go_size)));have m:=Px ((Py.new w #[.pointer (some ⟨r,0,none⟩),.pointer (some ⟨u,0,none⟩)] 40).up (.cells #[.int .i64 7,.int .i64 a,.int .i64 b,.int .i64 c,.string s] 67));have k:=Px (Py.newAt (w.alloc (.cells #[.pointer (some ⟨r,0,none⟩),.pointer (some ⟨u,0,none⟩)] 40)) (w.heap.size+1) #[.int .i64 7,.int .i64 a,.int .i64 b,.int .i64 c,.string s] 67 (by simp));generalize (w.alloc (.cells #[.pointer (some ⟨r,0,none⟩),.pointer (some ⟨u,0,none⟩)] 40)).alloc (.cells #[.int .i64 7,.int .i64 a,.int .i64 b,.int .i64 c,.string s] 67)=P at *;obtain⟨w7,w8,U⟩:=v.out _ C.out;have x0:=m.out.rules.1 0;have x1:=m.out.rules.1 1;have X:=m.out.lt;have S:=k.out.rules.1 2;have Y:=k.out.rules.1 3;have aa:=k.out.lt;simp at x0 x1 S Y;have G:Hid (∀W,Below P.heap.size P W->Calls prog 17 #[.pointer (some ⟨g,0,none⟩),.agg #[.pointer (some ⟨r,0,none⟩),.pointer (some ⟨u,0,none⟩)],.slice none 0 0,.bool true,.int .i64 b,.int .i64 c] W fun e d=>e=.returned (.bool true)/\Hid (∃l i,l.length<=rs.length+1/\Qm B d g ps l row j i f)/\Hid (Below B w d)/\d.cell? ⟨g,7,none⟩=some (.slice none 0 0)/\d.cell? ⟨g,8,none⟩=some (.bool true)/\d.cell? ⟨w.heap.size,0,none⟩=some (.pointer (some ⟨r,0,none⟩))/\d.cell? ⟨w.heap.size,1,none⟩=some (.pointer (some ⟨u,0,none⟩))/\d.cell? ⟨w.heap.size+1,2,none⟩=some (.int .i64 b)/\d.cell? ⟨w.heap.size+1,3,none⟩=some (.int .i64 c)):=fun W o=>by
  have x:=P3 C.out o;refine(A.out W x).mono ?_;rintro e d ⟨V,M,T,L⟩;have N:=(m.out.below o).save L.out (fun F=>by have:=y.out _ F;omega);have Q:=(k.out.below o).save L.out (fun F=>by have:=y.out _ F;omega);obtain⟨l,i,_,t⟩:=M.out;have O:=t.box;exact⟨V,M,(x.mono J).trans T.out,by rw[O.rules.1];rfl,by rw[O.rules.1];rfl,by rw[N.rules.1];rfl,by rw[N.rules.1];rfl,by rw[Q.rules.1];rfl,by rw[Q.rules.1];rfl⟩
 clear m k A v;go_region_held3 (fun d=>d.cell? ⟨g,7,none⟩=some (.slice none 0 0)/\d.cell? ⟨g,8,none⟩=some (.bool true)/\d.cell? ⟨w.heap.size,0,none⟩=some (.pointer (some ⟨r,0,none⟩))/\d.cell? ⟨w.heap.size,1,none⟩=some (.pointer (some ⟨u,0,none⟩))/\d.cell? ⟨w.heap.size+1,2,none⟩=some (.int .i64 b)/\d.cell? ⟨w.heap.size+1,3,none⟩=some (.int .i64 c)) (first|go_keep|(go_simp;done)) (first|(go_at_call 17;refine(G.out _ (by exact(by repeat'(first|with_reducible(first|apply zR|assumption|apply zN|apply zA|apply zD|apply zS)|go_size)))).mono ?_;rintro e w5 ⟨rfl,H,I,z1,z2,z3,z4,z5,z6⟩))
 all_goals
  go_wp2;go_ret;obtain⟨l,i,q,t⟩:=H.out;exact⟨rfl,⟨ps,l,row,j,i,f,by omega,q,by omega,t⟩,I⟩
theorem I7(B:Nat)(w:World)(l:Nat)(ps:List vd)(rs:List vy)(row:List ByteArray)(g f d:Value)(h:Qm B w l ps rs row g f d)(r:vy)(t:r∈rs)(a b c:Int)(s:ByteArray):
  Calls prog 97 #[.pointer (some ⟨l,0,none⟩),.agg #[.pointer (some ⟨r.1,0,none⟩),.pointer (some ⟨r.2.1,0,none⟩),.pointer (some ⟨r.2.2,0,none⟩)],.agg #[.int .i64 11,.int .i64 a,.int .i64 b,.int .i64 c,.string s]] w fun e j=>qK B w l ps.length rs.length row.length e j:=by
 have i:Hid (∀W,Below w.heap.size w W->Calls prog 20 #[.agg #[.pointer (some ⟨r.1,0,none⟩),.pointer (some ⟨r.2.1,0,none⟩),.pointer (some ⟨r.2.2,0,none⟩)]] W fun e j=>e=.returned (.bool true)/\Hid (Below W.heap.size W j)):=fun W D=>by
  obtain⟨F,z,G,A,q,n,k,m,x,y,u⟩:=(h.below D).ress r t;exact Mh W _ _ _ F z G A q n k m x y u
 have p:=zT h.low (jT h.box.lt);have C:=Px h;clear h t;generalize r.1=x at *;generalize r.2.1=y at *;generalize r.2.2=u at *;go_enter func97,ntmps97;go_wp2_with (first|(go_at_call 20;refine(i.out _ (by exact(by repeat'(first|with_reducible(first|apply zR|assumption|apply zN|apply zA|apply zD|apply zS)|go_size)))).mono ?_;rintro e E ⟨rfl,o⟩))
 go_ret;have v:Below w.heap.size w E:=zP (show Below w.heap.size w _ from(by repeat'(first|with_reducible(first|apply zR|assumption|apply zN|apply zA|apply zD|apply zS)|go_size))) o.out (zf _);exact⟨rfl,⟨ps,rs,row,g,f,d,by omega,by omega,by omega,C.out.below v⟩,v.mono p⟩
section
theorem BH:∀(rs:List vy) (k:Nat) (a:k<rs.length),(dE rs)[k*3]?=some (.pointer (some ⟨rs[k].1,0,none⟩))/\(dE rs)[k*3+1]?=some (.pointer (some ⟨rs[k].2.1,0,none⟩))/\(dE rs)[k*3+2]?=some (.pointer (some ⟨rs[k].2.2,0,none⟩))
 |[],k,a=>by simp at a
 |p::r,0,_=>by simp[dE]
 |p::r,k+1,a=>by
  have:=BH r k (by simpa using a);simp only[dE,uo] at this ⊢;rw[show(k+1)*3=k*3+1+1+1 from by omega];simpa using this
section
variable {B:Nat} {w:World} {wb:Nat} {ps:List vd} {rs:List vy} {row:List ByteArray} {psv rsv rowv:Value} {a b c:Int} {s:ByteArray}
theorem qK.kept{e:World}(h:Qm B w wb ps rs row psv rsv rowv)(d:Below w.heap.size w e):qK B w wb ps.length rs.length row.length (.returned (.bool true)) e:=⟨rfl,⟨ps,rs,row,psv,rsv,rowv,by omega,by omega,by omega,h.below d⟩,d.mono (zT h.low (jT h.box.lt))⟩
theorem qK.from{d j:World}{g i f:Nat}{e:Ending}(h:qK B d wb g i f e j)(k:Below B w d):qK B w wb g i f e j:=⟨h.1,h.2.1,k.trans h.2.2.out⟩
theorem EF{k:Int}(l:B<=w.heap.size){i j h:Nat}(m:Hid (∀W,Below w.heap.size w W->Calls prog 94 #[.pointer (some ⟨wb,0,none⟩),.agg #[.int .i64 k,.int .i64 a,.int .i64 b,.int .i64 c,.string s]] W fun e g=>qK B W wb i j h e g)):
  Calls prog 57 #[.pointer (some ⟨wb,0,none⟩),.agg #[.int .i64 k,.int .i64 a,.int .i64 b,.int .i64 c,.string s]] w fun e g=>qK B w wb i j h e g:=by
 go_enter func57,ntmps57;go_wp2_with (first|(go_at_call 94;refine(m.out _ (by exact(by repeat'(first|with_reducible(first|apply zR|assumption|apply zN|apply zA|apply zD|apply zS)|go_size)))).mono ?_;rintro e n ⟨rfl,f,d⟩))
 go_ret;exact⟨rfl,f,(Below.mono (w:=w) (by repeat'(first|with_reducible(first|apply zR|assumption|apply zN|apply zA|apply zD|apply zS)|go_size)) l).trans d.out⟩
theorem N4(h:Qm B w wb ps rs row psv rsv rowv)(hs:s.size<=1048576)(j:ps.length<=1048576):
  Calls prog 57 #[.pointer (some ⟨wb,0,none⟩),.agg #[.int .i64 1,.int .i64 a,.int .i64 b,.int .i64 c,.string s]] w fun e t=>qK B w wb ps.length rs.length row.length e t:=by
 have m:=zT h.low (jT h.box.lt);have n:=Px fun W=>GN W wb a b c s;have r:=Px fun W (q:Below w.heap.size w W)=>FT B W wb ps rs row psv rsv rowv s (h.below q) hs j;clear h;go_enter func57,ntmps57;go_wp2_with (first|(go_at_call 94;refine(n.out _).mono ?_;rintro e v ⟨rfl,d⟩;have f:=(Py.new w #[.int .i64 1,.int .i64 a,.int .i64 b,.int .i64 c,.string s] 67).below d;obtain⟨p,o,l⟩:=f.boxed;have g:=P3 ((zo w.heap.size w).alloc (zf _) (.cells #[.int .i64 1,.int .i64 a,.int .i64 b,.int .i64 c,.string s] 67)) d)|(go_at_call 16;refine(r.out _ (by exact g)).mono ?_;rintro e u ⟨rfl,k,i⟩))
 go_ret;exact⟨rfl,k,(g.mono m).trans i.out⟩
theorem LP(h:Qm B w wb ps rs row psv rsv rowv)(ha:-9223372036854775808<=a/\a<=9223372036854775807)(X:-9223372036854775808<=b/\b<=9223372036854775807)(hc:-9223372036854775808<=c/\c<=9223372036854775807)(hn:ps.length<=1048576)(U:rs.length<=1048576):
  Calls prog 57 #[.pointer (some ⟨wb,0,none⟩),.agg #[.int .i64 7,.int .i64 a,.int .i64 b,.int .i64 c,.string s]] w fun e k=>qK B w wb ps.length rs.length row.length e k:=by
 have D:=Px h;have V:=zT h.low (jT h.box.lt);have l:=h.box;have o:=h.ops;obtain⟨Z,v,rfl⟩:=zs o;have x:=Px fun W=>Ac W wb 7 a b c s (zg rfl);clear h;have f:0<ps.length∨ps=[]:=by
  cases ps
  ·exact ze rfl
  ·exact zg (by simp)
 rcases f with f|rfl
 ·obtain⟨j,p⟩:∃j,j=la a ps.length:=⟨_,rfl⟩;have y:j<ps.length:=by rw[p];exact E4 a f
  have G:Hid (∀W:World,Calls prog 95 #[.int .i64 a,.int .i64 ps.length] W fun e k=>e=.returned (.int .i64 (j:Int))/\k=W):=fun W=>by rw[p];exact DW W a ps.length f (by omega) ha
  clear p;obtain⟨C,Q,S,_,z,m⟩:=yC o (by omega);simp only[Value.slice.injEq] at S;obtain⟨rfl,_,rfl⟩:=S;obtain⟨A,r⟩:=D4 ps j y;have u:=m _ _ A;have t:=m _ _ r;have L:=Px fun W (hW:Below w.heap.size w W)=>I1 B W wb ps rs row _ rsv rowv (D.out.below hW) ps[j] (zv y) a b c s X hc U;clear A r D o m;generalize ps[j].1=Y at *;generalize ps[j].2.1=q2 at *;generalize M:ps.length=n at *;clear M;go_enter func57,ntmps57;go_wp2_with (first|(go_at_call 94;refine(x.out _).mono ?_;rintro e E ⟨rfl,i⟩;have q:=(Py.new w #[.int .i64 _,.int .i64 a,.int .i64 b,.int .i64 c,.string s] 67).below i;obtain⟨N,R,F⟩:=q.boxed;have d:Below w.heap.size w E:=zP (by repeat'(first|with_reducible(first|apply zR|assumption|apply zN|apply zA|apply zD|apply zS)|go_size)) i (zf _);have g:=l.below d;obtain⟨O,H,I⟩:=g.boxed;have ac:=zm d z u;have aa:=zm d z t;have ab:=d.size;have T:C<E.heap.size:=(by omega)))
  go_region_held3 (fun k=>k.cell? ⟨wb,0,none⟩=some (.slice (some ⟨C,0,none⟩) n v)/\k.cell? ⟨w.heap.size,1,none⟩=some (.int .i64 a)/\k.cell? ⟨C,j*2,none⟩=some (.pointer (some ⟨Y,0,none⟩))/\k.cell? ⟨C,j*2+1,none⟩=some (.pointer (some ⟨q2,0,none⟩))) (go_keep) (first|(go_at_call 95;refine(G.out _).mono ?_;rintro e k ⟨rfl,P⟩;obtain rfl:=P.symm))
  all_goals
   go_wp2_with (first|(go_at_call 96;refine(L.out _ (by exact(by repeat'(first|with_reducible(first|apply zR|assumption|apply zN|apply zA|apply zD|apply zS)|go_size)))).mono ?_;rintro e w3 ⟨rfl,J,K⟩))
   go_ret;exact⟨rfl,J,(Below.mono (w:=w) (by repeat'(first|with_reducible(first|apply zR|assumption|apply zN|apply zA|apply zD|apply zS)|go_size)) V).trans K.out⟩
 ·simp only[kE] at l D;go_enter func57,ntmps57;go_wp2_with (first|(go_at_call 94;refine(x.out _).mono ?_;rintro e E ⟨rfl,i⟩;have q:=(Py.new w #[.int .i64 _,.int .i64 a,.int .i64 b,.int .i64 c,.string s] 67).below i;obtain⟨N,R,F⟩:=q.boxed;have d:Below w.heap.size w E:=zP (by repeat'(first|with_reducible(first|apply zR|assumption|apply zN|apply zA|apply zD|apply zS)|go_size)) i (zf _);have g:=l.below d;obtain⟨O,H,I⟩:=g.boxed))
  go_ret;exact qK.kept D.out d
theorem L8(h:Qm B w wb ps rs row psv rsv rowv)(ha:-9223372036854775808<=a/\a<=9223372036854775807)(hn:rs.length<=1048576):
  Calls prog 57 #[.pointer (some ⟨wb,0,none⟩),.agg #[.int .i64 11,.int .i64 a,.int .i64 b,.int .i64 c,.string s]] w fun e k=>qK B w wb ps.length rs.length row.length e k:=by
 have F:=Px h;have Z:=zT h.low (jT h.box.lt);have m:=h.box;have o:=h.ors;obtain⟨aa,x,rfl⟩:=zs o;have A:=Px fun W=>Ac W wb 11 a b c s (ze rfl);clear h;have f:0<rs.length∨rs=[]:=by
  cases rs
  ·exact ze rfl
  ·exact zg (by simp)
 rcases f with f|rfl
 ·obtain⟨g,p⟩:∃g,g=la a rs.length:=⟨_,rfl⟩;have D:g<rs.length:=by rw[p];exact E4 a f
  have I:Hid (∀W:World,Calls prog 95 #[.int .i64 a,.int .i64 rs.length] W fun e k=>e=.returned (.int .i64 (g:Int))/\k=W):=fun W=>by rw[p];exact DW W a rs.length f (by omega) ha
  clear p;obtain⟨C,S,U,_,q,l⟩:=yC o (by omega);simp only[Value.slice.injEq] at U;obtain⟨rfl,_,rfl⟩:=U;obtain⟨E,t,y⟩:=BH rs g D;have v:=l _ _ E;have u:=l _ _ t;have z:=l _ _ y;have N:=Px fun W (hW:Below w.heap.size w W)=>I7 B W wb ps rs row psv _ rowv (F.out.below hW) rs[g] (zv D) a b c s;clear E t y F o l;generalize rs[g].1=q1 at *;generalize rs[g].2.1=q2 at *;generalize rs[g].2.2=X at *;generalize O:rs.length=n at *;clear O;go_enter func57,ntmps57;go_wp2_with (first|(go_at_call 94;refine(A.out _).mono ?_;rintro e G ⟨rfl,j⟩;have r:=(Py.new w #[.int .i64 _,.int .i64 a,.int .i64 b,.int .i64 c,.string s] 67).below j;obtain⟨P,T,H⟩:=r.boxed;have d:Below w.heap.size w G:=zP (by repeat'(first|with_reducible(first|apply zR|assumption|apply zN|apply zA|apply zD|apply zS)|go_size)) j (zf _);have i:=m.below d;obtain⟨Q,J,K⟩:=i.boxed;have ad:=zm d q v;have ab:=zm d q u;have Y:=zm d q z;have ac:=d.size;have V:C<G.heap.size:=(by omega)))
  go_region_held3 (fun k=>k.cell? ⟨wb,1,none⟩=some (.slice (some ⟨C,0,none⟩) n x)/\k.cell? ⟨w.heap.size,1,none⟩=some (.int .i64 a)/\k.cell? ⟨C,g*3,none⟩=some (.pointer (some ⟨q1,0,none⟩))/\k.cell? ⟨C,g*3+1,none⟩=some (.pointer (some ⟨q2,0,none⟩))/\k.cell? ⟨C,g*3+2,none⟩=some (.pointer (some ⟨X,0,none⟩))) (go_keep) (first|(go_at_call 95;refine(I.out _).mono ?_;rintro e k ⟨rfl,R⟩;obtain rfl:=R.symm))
  all_goals
   go_wp2_with (first|(go_at_call 97;refine(N.out _ (by exact(by repeat'(first|with_reducible(first|apply zR|assumption|apply zN|apply zA|apply zD|apply zS)|go_size)))).mono ?_;rintro e w3 ⟨rfl,L,M⟩))
   go_ret;exact⟨rfl,L,(Below.mono (w:=w) (by repeat'(first|with_reducible(first|apply zR|assumption|apply zN|apply zA|apply zD|apply zS)|go_size)) Z).trans M.out⟩
 ·simp only[kE] at m F;go_enter func57,ntmps57;go_wp2_with (first|(go_at_call 94;refine(A.out _).mono ?_;rintro e G ⟨rfl,j⟩;have r:=(Py.new w #[.int .i64 _,.int .i64 a,.int .i64 b,.int .i64 c,.string s] 67).below j;obtain⟨P,T,H⟩:=r.boxed;have d:Below w.heap.size w G:=zP (by repeat'(first|with_reducible(first|apply zR|assumption|apply zN|apply zA|apply zD|apply zS)|go_size)) j (zf _);have i:=m.below d;obtain⟨Q,J,K⟩:=i.boxed))
  go_ret;exact qK.kept F.out d
end
theorem L2(B:Nat)(w:World)(wb:Nat)(ps:List vd)(rs:List vy)(row:List ByteArray)(psv rsv rowv:Value)(x:Qx)(h:Qm B w wb ps rs row psv rsv rowv)(d:QI [1,7,11] x.kind)(n:R5 x)(hs:x.s.size<=1048576)(k:ps.length<=1048576)(g:rs.length<=1048576)(p:row.length<=1048576):
  Calls prog 57 #[.pointer (some ⟨wb,0,none⟩),.agg #[.int .i64 x.kind,.int .i64 x.a,.int .i64 x.b,.int .i64 x.c,.string x.s]] w fun e l=>qK B w wb ps.length rs.length row.length e l:=by
 obtain⟨j,o,r⟩:=n;have i:=zT h.low (jT h.box.lt);rcases d with d|d|d
 ·rw[d];exact EF i fun W f=>FV B W wb ps rs row psv rsv rowv _ _ _ _ (h.below f) p
 ·rw[d];exact EF i fun W f=>(KD W wb _ _ _ _ _ _ _ _ _ _ _ _ _ _ _ _ _ (h.below f).box).mono fun e l q=>by obtain⟨rfl,m⟩:=q;exact qK.kept (h.below f) m
 ·simp only[zu,lE,or_false] at d;rcases d with d|d|d<;>rw[d]
  ·exact N4 h hs k
  ·exact LP h j o r k g
  ·exact L8 h j g
end
theorem Qm.start(w:World):Qm w.heap.size (w.alloc (.cells #[.slice none 0 0,.slice none 0 0,.slice none 0 0,.slice none 0 0,.int .i64 0,.int .i64 0,.int .i64 0,.slice none 0 0,.bool true,.slice none 0 0,.slice none 0 0,.slice none 0 0,.slice none 0 0,.slice none 0 0] 35)) w.heap.size [] [] [] (.slice none 0 0) (.slice none 0 0) (.slice none 0 0):=
 ⟨zf _,Py.new _ _ _,yI _ _ _ _,yI _ _ _ _,yI _ _ _ _,(by simp),(by simp)⟩
theorem KN(w:World)(v:Value)(l:List Qx)(h:QT w v l)(H:∀x∈l,QI [1,7,11] x.kind/\R5 x)(hl:l.length<=1048576)(hs:∀x∈l,x.s.size<=1048576):
  Calls prog 31 #[v] w fun e M=>e=.returned (.int .i64 (-1))/\Below w.heap.size w M:=by
 obtain⟨ao,Y,rfl⟩:=h.qx;have K:=Px H;have Z:=Px hs;clear H hs;go_enter func31,ntmps31;go_wp2;go_loopw [4] (fun X wr=>∃k:Nat,k<=l.length/\X=.int .i64 k/\Hid (∃u y row g f c,u.length<=k/\y.length<=k/\row.length<=k/\Qm w.heap.size wr w.heap.size u y row g f c)/\Below w.heap.size w wr) (fun i _=>l.length-(intOf i).toNat)
 case atStart=>exact⟨0,zx _,rfl,⟨[],[],[],_,_,_,zf _,zf _,zf _,Qm.start w⟩,(by repeat'(first|with_reducible(first|apply zR|assumption|apply zN|apply zA|apply zD|apply zS)|go_size))⟩
 case round=>
  obtain⟨k,H,rfl,r,a⟩:=hrel;have I:=a.size;by_cases d:k<l.length
  ·obtain⟨b,o,rfl,n,P,Q,N,J,O⟩:=h.cell k d;have V:=zm a n P;have U:=zm a n Q;have R:=zm a n N;have S:=zm a n J;have T:=zm a n O;have W:b<wr.heap.size:=by omega
   obtain⟨u,y,row,g,f,c,g1,g2,g3,L⟩:=r.out;have E:=Px (L2 w.heap.size wr w.heap.size u y row g f c l[k] L (K.out _ (zv d)).1 (K.out _ (zv d)).2 (Z.out _ (zv d)) (by omega) (by omega) (by omega));clear P Q N J O L r;generalize l[k]=x at *;go_wp2_with (first|(go_at_call 57;refine E.out.mono ?_;rintro e w1 ⟨rfl,q,A⟩;obtain⟨D,F,p,s,t,j,d1,d2,d3,B⟩:=q.out;have z:=Px B;have m:=B.box;have C:=a.trans A.out;clear B q)|(go_at_call 58;refine(LI _ w.heap.size _ _ _ _ _ _ _ _ _ _ m).mono ?_;rintro e M ⟨rfl,G⟩;obtain rfl:=G.symm))
   go_roundw
   case rel=>exact⟨k+1,by omega,by go_num,⟨D,F,p,s,t,j,by omega,by omega,by omega,z.out⟩,C⟩
   case measure=>simp[intOf];omega
  ·go_wp2;go_ret;exact⟨rfl,a⟩
theorem LT(w:World)(v:Value)(l:List Qx)(h:QT w v l)(g:∀x∈l,R5 x):
  Calls prog 5 #[v] w fun e o=>e=.returned (.bool true)/\Below w.heap.size w o:=by
 have a:Hid (EG l [1,7,11]):=fun W n i j c m f=>KN W n i j (fun x d=>⟨(c x d).2,g x (c x d).1⟩) m f;obtain⟨p,k,rfl⟩:=h.qx;go_enter func5,ntmps5;go_wp2_with (first|(go_at_call 15;refine(KO _ _ l (by exact h.below (by repeat'(first|with_reducible(first|apply zR|assumption|apply zN|apply zA|apply zD|apply zS)|go_size))) _ [1,7,11] ⟨_,Nn _ [.int .i64 1,.int .i64 7,.int .i64 11] _ (by decide)⟩ (by decide) a.out).mono ?_;rintro e q ⟨rfl,b⟩))
 go_ret;exact⟨rfl,P3 ((zo w.heap.size w).alloc (zf _) _) b⟩
section
open Go.ChangeShapes Go.WideShapes Go.ChangeAt Go.Deep
theorem Mf(os:Os)(b:os.Started)(H:Type)(enc:TypeId×Value->H):
  ReturnsInHanded {} checked os 5 .any (Rows.followsSpec.pre6 enc prog Tryz.f5 Rows.followsRow.domain false) (Rows.followsSpec.post enc prog Tryz.f5 false true false false):=by
 refine returnsInHanded_of_change_sized (C:=checked) Pb b (by kernel_rfl) func5
  (ChangeSpec.witness6 (enc:=enc) (C:=checked) false ⟨#[],#[.slice none 0 0],[]⟩ 8 (by kernel_rfl) (by kernel_rfl) (by kernel_rfl) (by kernel_rfl)) ?_
 intro W k args w E m a y _ c _;have g:(DataW.weightsEach prog (Tryz.f5.params.toList++Rows.followsSpec.plain.varTypes prog) (w++E)).all (·<=reachBytes)=true:=c;clear c;have d:∀(j:Nat) t v,Tryz.f5.params[j]?=some t->args[j]?=some v->Value.okWide prog W .any k t v:=a;have f:=y;obtain⟨p,q,i,F,rfl,_,_⟩:=y;have A:DataW.TrodAll enc prog W 0 (fun _=>true) true Tryz.f5.params.toList args.toList w p:=i;rw[params5] at A d g;obtain⟨J,K,rfl,rfl,u⟩:=trodAll_one A;obtain⟨rfl,rfl⟩:=trodVars_none F;have n:=u;obtain⟨z,G⟩:=u;clear i a;simp only[qE] at f;have o:∀x∈p,x.block<W.heap.size:=fun x D=>by simpa using f.lt x D
 obtain⟨O,I,L,rfl⟩:=okWide_slice underlying22 (d 0 22 J rfl rfl);obtain⟨l,M,r⟩:=Gv (x:=(K,p)) G g;refine(LT W _ l M r).mono fun e N ⟨B,s⟩=>?_;subst B;exact⟨_,rfl,⟨_,_,_,[],_,[],f,trodAll_mk1 (shut_bool underlying4 true),trodAll_mk1 (Below.trod OV (by kernel_rfl) (of_decide_eq_true (by kernel_rfl)) n s o),rfl,s.frame _,fun h=>by cases h⟩⟩
theorem Mx:joinedFacts prog 5 Tryz.f5 Rows.followsSpec Rows.followsRow=true:=by
 unfold joinedFacts;simp only[vq];repeat'(with_reducible apply And.intro)
 all_goals (as_aux_lemma=>kernel_rfl)
theorem follows_holds:Rows.FollowsSaid:=
 OpenClaim.holds_of_wide 5 Tryz.f5 rfl rfl rfl rfl rfl rfl rfl ⟨rfl,rfl,rfl,rfl,rfl⟩ rfl rfl rfl rfl rfl (by kernel_rfl) func5 Mx
  (of_decide_eq_true (by kernel_rfl)) (by unfold Func.isWrapper;first|(rw[zb (by decide +kernel)];kernel_rfl)|(rw[za (by decide +kernel)];exact⟨rfl,rfl⟩))
  (fun c a H b _=>Mf c a H b)
#print axioms follows_holds
end
end Go.Proofs.YteampbddflhngaaGreat
