import Derived.Test.YteampbddflhngaaGreatV52
namespace Go.Proofs.YteampbddflhngaaGreat
set_option linter.all false
set_option maxRecDepth 100000
set_option maxHeartbeats 4000000
open Go.Proofs.Tryz Go.RowKit
theorem C8(w:World)(d:Nat)(k a b c:Int)(s:ByteArray)(f:k=7∨k=10):
  Calls prog 94 #[.pointer (some ⟨d,0,none⟩),.agg #[.int .i64 k,.int .i64 a,.int .i64 b,.int .i64 c,.string s]] w fun e g=>e=.returned (.bool false)/\Below w.heap.size w g:=by
 rcases f with rfl|rfl
 all_goals
  go_enter func94,ntmps94;go_wp2;go_ret;exact⟨rfl,(by repeat'(first|with_reducible(first|apply zR|assumption|apply zN|apply zA|apply zD|apply zS)|go_size))⟩
theorem Lo(B:Nat)(w:World)(g:Nat)(ps:List vc)(rs:List vh)(row:List ByteArray)(j l d:Value)(h:PP B w g ps rs row j l d)(p:vc)(P:p∈ps)(a b c:Int)(s:ByteArray)(D:-9223372036854775808<=b/\b<=9223372036854775807)(hc:-9223372036854775808<=c/\c<=9223372036854775807)(S:rs.length<=1048576):
  Calls prog 96 #[.pointer (some ⟨g,0,none⟩),.agg #[.pointer (some ⟨p.1,0,none⟩),.pointer (some ⟨p.2.1,0,none⟩)],.agg #[.int .i64 7,.int .i64 a,.int .i64 b,.int .i64 c,.string s]] w fun e f=>jQ B w g ps.length rs.length row.length e f:=by
 have A:Hid (∀W,Below w.heap.size w W->Calls prog 17 #[.pointer (some ⟨g,0,none⟩),.agg #[.pointer (some ⟨p.1,0,none⟩),.pointer (some ⟨p.2.1,0,none⟩)],.slice none 0 0,.bool true,.int .i64 b,.int .i64 c] W fun e f=>eA B W g ps rs row j l d e f):=fun W o=>by
  by_cases Y:b<0∨1048576<b∨c<0∨1048576<c
  ·exact EY B W g ps rs row j l d (h.below o) _ _ b c (by omega) (by omega) Y
  ·obtain⟨K,rfl⟩:∃K:Nat,b=(K:Int):=⟨b.toNat,by omega⟩;obtain⟨J,rfl⟩:∃J:Nat,c=(J:Int):=⟨c.toNat,by omega⟩;exact Oq B W g ps rs row j l d (h.below o) p P K J (by omega) (by omega) S
 have H:=zT h.low (jX h.box.lt);have v:∀b∈g::l.ownBlock.toList,b<w.heap.size:=fun b D=>by
  rcases zw.1 D with rfl|D
  ·exact h.box.lt
  ·exact yO h.ors (yv D)
 have z:=OY v;have HW:=OY h;have y:Hid (∀W,Below w.heap.size w W->W.cell? ⟨g,7,none⟩=some (.slice none 0 0)/\W.cell? ⟨g,8,none⟩=some (.bool true)/\g<W.heap.size):=fun W o=>by
  have q:=h.box.below o;exact⟨by rw[q.rules.1];rfl,by rw[q.rules.1];rfl,q.lt⟩
 clear h v P;generalize p.1=u at *;generalize p.2.1=t at *;go_enter func96,ntmps96;go_upto_region 3 with fail
 have x:Hid (Below w.heap.size w ((w.alloc (.cells #[.pointer (some ⟨u,0,none⟩),.pointer (some ⟨t,0,none⟩)] 40)).alloc (.cells #[.int .i64 7,.int .i64 a,.int .i64 b,.int .i64 c,.string s] 67))):=(show Below w.heap.size w _ from(by repeat'(first|with_reducible(first|apply zR|assumption|apply zN|apply zA|apply zD|apply zS)|go_size)));have n:=OY ((OZ.new w #[.pointer (some ⟨u,0,none⟩),.pointer (some ⟨t,0,none⟩)] 40).up (.cells #[.int .i64 7,.int .i64 a,.int .i64 b,.int .i64 c,.string s] 67));have k:=OY (OZ.newAt (w.alloc (.cells #[.pointer (some ⟨u,0,none⟩),.pointer (some ⟨t,0,none⟩)] 40)) (w.heap.size+1) #[.int .i64 7,.int .i64 a,.int .i64 b,.int .i64 c,.string s] 67 (by simp));generalize (w.alloc (.cells #[.pointer (some ⟨u,0,none⟩),.pointer (some ⟨t,0,none⟩)] 40)).alloc (.cells #[.int .i64 7,.int .i64 a,.int .i64 b,.int .i64 c,.string s] 67)=N at *;obtain⟨w7,w8,ab⟩:=y.out _ x.out;have U:=n.out.rules.1 0;have x1:=n.out.rules.1 1;have aa:=n.out.lt;have X:=k.out.rules.1 2;have T:=k.out.rules.1 3;have V:=k.out.lt;simp at U x1 X T;have E:Hid (∀W,Below N.heap.size N W->Calls prog 17 #[.pointer (some ⟨g,0,none⟩),.agg #[.pointer (some ⟨u,0,none⟩),.pointer (some ⟨t,0,none⟩)],.slice none 0 0,.bool true,.int .i64 b,.int .i64 c] W fun e f=>e=.returned (.bool true)/\Hid (∃m i,m.length<=rs.length+1/\PP B f g ps m row j i d)/\Hid (Below B w f)/\f.cell? ⟨g,7,none⟩=some (.slice none 0 0)/\f.cell? ⟨g,8,none⟩=some (.bool true)/\f.cell? ⟨w.heap.size,0,none⟩=some (.pointer (some ⟨u,0,none⟩))/\f.cell? ⟨w.heap.size,1,none⟩=some (.pointer (some ⟨t,0,none⟩))/\f.cell? ⟨w.heap.size+1,2,none⟩=some (.int .i64 b)/\f.cell? ⟨w.heap.size+1,3,none⟩=some (.int .i64 c)):=fun W o=>by
  have C:=Pc x.out o;refine(A.out W C).mono ?_;rintro e f ⟨Z,M,r3,L⟩;have O:=(n.out.below o).save L.out (fun I=>by have:=z.out _ I;omega);have R:=(k.out.below o).save L.out (fun I=>by have:=z.out _ I;omega);obtain⟨m,i,_,r⟩:=M.out;have Q:=r.box;exact⟨Z,M,(C.mono H).trans r3.out,by rw[Q.rules.1];rfl,by rw[Q.rules.1];rfl,by rw[O.rules.1];rfl,by rw[O.rules.1];rfl,by rw[R.rules.1];rfl,by rw[R.rules.1];rfl⟩
 clear n k A y;go_region_held3 (fun f=>f.cell? ⟨g,7,none⟩=some (.slice none 0 0)/\f.cell? ⟨g,8,none⟩=some (.bool true)/\f.cell? ⟨w.heap.size,0,none⟩=some (.pointer (some ⟨u,0,none⟩))/\f.cell? ⟨w.heap.size,1,none⟩=some (.pointer (some ⟨t,0,none⟩))/\f.cell? ⟨w.heap.size+1,2,none⟩=some (.int .i64 b)/\f.cell? ⟨w.heap.size+1,3,none⟩=some (.int .i64 c)) (first|go_keep|(go_simp;done)) (first|(go_at_call 17;refine(E.out _ (by exact(by repeat'(first|with_reducible(first|apply zR|assumption|apply zN|apply zA|apply zD|apply zS)|go_size)))).mono ?_;rintro e w5 ⟨rfl,G,F,z1,z2,z3,z4,z5,z6⟩))
 all_goals
  go_wp2;go_ret;obtain⟨m,i,q,r⟩:=G.out;exact⟨rfl,⟨ps,m,row,j,i,d,by omega,q,by omega,r⟩,F⟩
theorem Hz(B:Nat)(w:World)(o:Nat)(ps:List vc)(rs:List vh)(row:List ByteArray)(u y d:Value)(h:PP B w o ps rs row u y d)(r:vh)(K:r∈rs)(a b c:Int)(s:ByteArray)(M:row.length<=1048576):
  Calls prog 97 #[.pointer (some ⟨o,0,none⟩),.agg #[.pointer (some ⟨r.1,0,none⟩),.pointer (some ⟨r.2.1,0,none⟩),.pointer (some ⟨r.2.2.1,0,none⟩)],.agg #[.int .i64 10,.int .i64 a,.int .i64 b,.int .i64 c,.string s]] w fun e f=>jQ B w o ps.length rs.length row.length e f:=by
 have C:Hid (∀W,Below w.heap.size w W->Calls prog 21 #[.agg #[.pointer (some ⟨r.1,0,none⟩),.pointer (some ⟨r.2.1,0,none⟩),.pointer (some ⟨r.2.2.1,0,none⟩)],.string s,d] W fun e f=>e=.returned (.bool true)/\Hid (Below W.heap.size W f)):=fun W n=>by
  obtain⟨lo,U,R,L,k,S,T,rv,Y,cv,F,N,E,q⟩:=(h.below n).ress r K;exact EO W _ _ _ _ _ lo U R L k S T rv Y cv F N E s d row q (h.below n).reg M
 have G:=zT h.low (jX h.box.lt);have HW:=OY h;have l:Hid (∀W,Below w.heap.size w W->W.cell? ⟨o,9,none⟩=some d/\o<W.heap.size):=fun W n=>by
  have q:=h.box.below n;exact⟨by rw[q.rules.1];rfl,q.lt⟩
 clear h K;generalize r.1=j at *;generalize r.2.1=p at *;generalize r.2.2.1=m at *;go_enter func97,ntmps97;go_upto_region 5 with fail
 have t:Hid (Below w.heap.size w ((w.alloc (.cells #[.pointer (some ⟨j,0,none⟩),.pointer (some ⟨p,0,none⟩),.pointer (some ⟨m,0,none⟩)] 50)).alloc (.cells #[.int .i64 10,.int .i64 a,.int .i64 b,.int .i64 c,.string s] 67))):=(show Below w.heap.size w _ from(by repeat'(first|with_reducible(first|apply zR|assumption|apply zN|apply zA|apply zD|apply zS)|go_size)));have g:=OY ((OZ.new w #[.pointer (some ⟨j,0,none⟩),.pointer (some ⟨p,0,none⟩),.pointer (some ⟨m,0,none⟩)] 50).up (.cells #[.int .i64 10,.int .i64 a,.int .i64 b,.int .i64 c,.string s] 67));have i:=OY (OZ.newAt (w.alloc (.cells #[.pointer (some ⟨j,0,none⟩),.pointer (some ⟨p,0,none⟩),.pointer (some ⟨m,0,none⟩)] 50)) (w.heap.size+1) #[.int .i64 10,.int .i64 a,.int .i64 b,.int .i64 c,.string s] 67 (by simp));generalize (w.alloc (.cells #[.pointer (some ⟨j,0,none⟩),.pointer (some ⟨p,0,none⟩),.pointer (some ⟨m,0,none⟩)] 50)).alloc (.cells #[.int .i64 10,.int .i64 a,.int .i64 b,.int .i64 c,.string s] 67)=J at *;obtain⟨w9,ab⟩:=l.out _ t.out;have O:=g.out.rules.1 0;have Z:=g.out.rules.1 1;have Q:=g.out.rules.1 2;have aa:=g.out.lt;have X:=i.out.rules.1 4;have P:=i.out.lt;simp at O Z Q X;have D:Hid (∀W,Below J.heap.size J W->Calls prog 21 #[.agg #[.pointer (some ⟨j,0,none⟩),.pointer (some ⟨p,0,none⟩),.pointer (some ⟨m,0,none⟩)],.string s,d] W fun e f=>e=.returned (.bool true)/\Hid (Below w.heap.size w f)/\f.cell? ⟨o,9,none⟩=some d/\f.cell? ⟨w.heap.size,0,none⟩=some (.pointer (some ⟨j,0,none⟩))/\f.cell? ⟨w.heap.size,1,none⟩=some (.pointer (some ⟨p,0,none⟩))/\f.cell? ⟨w.heap.size,2,none⟩=some (.pointer (some ⟨m,0,none⟩))/\f.cell? ⟨w.heap.size+1,4,none⟩=some (.string s)):=fun W n=>by
  have A:=Pc t.out n;refine(C.out W A).mono ?_;rintro e f ⟨V,I⟩;have z:=Pc A I.out;have v:=Pc n I.out;have H:=g.out.below v;have y2:=i.out.below v;exact⟨V,z,(l.out _ z).1,by rw[H.rules.1];rfl,by rw[H.rules.1];rfl,by rw[H.rules.1];rfl,by rw[y2.rules.1];rfl⟩
 clear g i C l;go_region_held3 (fun f=>f.cell? ⟨o,9,none⟩=some d/\f.cell? ⟨w.heap.size,0,none⟩=some (.pointer (some ⟨j,0,none⟩))/\f.cell? ⟨w.heap.size,1,none⟩=some (.pointer (some ⟨p,0,none⟩))/\f.cell? ⟨w.heap.size,2,none⟩=some (.pointer (some ⟨m,0,none⟩))/\f.cell? ⟨w.heap.size+1,4,none⟩=some (.string s)) (first|go_keep|(go_simp;done)) (first|(go_at_call 21;refine(D.out _ (by exact(by repeat'(first|with_reducible(first|apply zR|assumption|apply zN|apply zA|apply zD|apply zS)|go_size)))).mono ?_;rintro e w5 ⟨rfl,x,z1,z2,z3,z4,z5⟩))
 all_goals
  go_wp2;go_ret;exact⟨rfl,⟨ps,rs,row,u,y,d,by omega,by omega,by omega,HW.out.below x.out⟩,x.out.mono G⟩
section
theorem Es:∀(rs:List vh) (k:Nat) (a:k<rs.length),(dR rs)[k*3]?=some (.pointer (some ⟨rs[k].1,0,none⟩))/\(dR rs)[k*3+1]?=some (.pointer (some ⟨rs[k].2.1,0,none⟩))/\(dR rs)[k*3+2]?=some (.pointer (some ⟨rs[k].2.2.1,0,none⟩))
 |[],k,a=>by simp at a
 |p::r,0,_=>by simp[dR]
 |p::r,k+1,a=>by
  have:=Es r k (by simpa using a);simp only[dR,us] at this ⊢;rw[show(k+1)*3=k*3+1+1+1 from by omega];simpa using this
section
variable {B:Nat} {w:World} {wb:Nat} {ps:List vc} {rs:List vh} {row:List ByteArray} {psv rsv rowv:Value} {a b c:Int} {s:ByteArray}
theorem jQ.kept{d:World}(h:PP B w wb ps rs row psv rsv rowv)(e:Below w.heap.size w d):jQ B w wb ps.length rs.length row.length (.returned (.bool true)) d:=⟨rfl,⟨ps,rs,row,psv,rsv,rowv,by omega,by omega,by omega,h.below e⟩,e.mono (zT h.low (jX h.box.lt))⟩
theorem AT{k:Int}(m:B<=w.heap.size){j h i:Nat}(l:Hid (∀W,Below w.heap.size w W->Calls prog 94 #[.pointer (some ⟨wb,0,none⟩),.agg #[.int .i64 k,.int .i64 a,.int .i64 b,.int .i64 c,.string s]] W fun e g=>jQ B W wb j h i e g)):
  Calls prog 57 #[.pointer (some ⟨wb,0,none⟩),.agg #[.int .i64 k,.int .i64 a,.int .i64 b,.int .i64 c,.string s]] w fun e g=>jQ B w wb j h i e g:=by
 go_enter func57,ntmps57;go_wp2_with (first|(go_at_call 94;refine(l.out _ (by exact(by repeat'(first|with_reducible(first|apply zR|assumption|apply zN|apply zA|apply zD|apply zS)|go_size)))).mono ?_;rintro e n ⟨rfl,f,d⟩))
 go_ret;exact⟨rfl,f,(Below.mono (w:=w) (by repeat'(first|with_reducible(first|apply zR|assumption|apply zN|apply zA|apply zD|apply zS)|go_size)) m).trans d.out⟩
theorem Gs(h:PP B w wb ps rs row psv rsv rowv)(r:s.size<=1048576)(j:ps.length<=1048576):
  Calls prog 57 #[.pointer (some ⟨wb,0,none⟩),.agg #[.int .i64 1,.int .i64 a,.int .i64 b,.int .i64 c,.string s]] w fun e u=>jQ B w wb ps.length rs.length row.length e u:=by
 have o:=zT h.low (jX h.box.lt);have m:=OY fun W=>II W wb a b c s;have t:=OY fun W (q:Below w.heap.size w W)=>Ld B W wb ps rs row psv rsv rowv s (h.below q) r j;clear h;go_enter func57,ntmps57;go_wp2_with (first|(go_at_call 94;refine(m.out _).mono ?_;rintro e x ⟨rfl,f⟩;have g:=(OZ.new w #[.int .i64 1,.int .i64 a,.int .i64 b,.int .i64 c,.string s] 67).below f;obtain⟨p,n,l⟩:=g.boxed;have d:=Pc ((zo w.heap.size w).alloc (zh _) (.cells #[.int .i64 1,.int .i64 a,.int .i64 b,.int .i64 c,.string s] 67)) f)|(go_at_call 16;refine(t.out _ (by exact d)).mono ?_;rintro e v ⟨rfl,i,k⟩))
 go_ret;exact⟨rfl,i,(d.mono o).trans k.out⟩
theorem Ni(h:PP B w wb ps rs row psv rsv rowv)(Z:-9223372036854775808<=a/\a<=9223372036854775807)(hb:-9223372036854775808<=b/\b<=9223372036854775807)(V:-9223372036854775808<=c/\c<=9223372036854775807)(hn:ps.length<=1048576)(hr:rs.length<=1048576):
  Calls prog 57 #[.pointer (some ⟨wb,0,none⟩),.agg #[.int .i64 7,.int .i64 a,.int .i64 b,.int .i64 c,.string s]] w fun e k=>jQ B w wb ps.length rs.length row.length e k:=by
 have E:=OY h;have Y:=zT h.low (jX h.box.lt);have m:=h.box;have q:=h.ops;obtain⟨ab,x,rfl⟩:=zq q;have z:=OY fun W=>C8 W wb 7 a b c s (zf rfl);clear h;have f:0<ps.length∨ps=[]:=by
  cases ps
  ·exact ze rfl
  ·exact zf (by simp)
 rcases f with f|rfl
 ·obtain⟨j,o⟩:∃j,j=lm a ps.length:=⟨_,rfl⟩;have t:j<ps.length:=by rw[o];exact AZ a f
  have Q:Hid (∀W:World,Calls prog 95 #[.int .i64 a,.int .i64 ps.length] W fun e k=>e=.returned (.int .i64 (j:Int))/\k=W):=fun W=>by rw[o];exact A4 W a ps.length f (by omega) Z
  clear o;obtain⟨C,L,T,_,v,l⟩:=y7 q (by omega);simp only[Value.slice.injEq] at T;obtain⟨rfl,_,rfl⟩:=T;obtain⟨y,u⟩:=CD ps j t;have A:=l _ _ y;have r:=l _ _ u;have G:=OY fun W (hW:Below w.heap.size w W)=>Lo B W wb ps rs row _ rsv rowv (E.out.below hW) ps[j] (zu t) a b c s hb V hr;clear y u E q l;generalize ps[j].1=q1 at *;generalize ps[j].2.1=q2 at *;generalize I:ps.length=n at *;clear I;go_enter func57,ntmps57;go_wp2_with (first|(go_at_call 94;refine(z.out _).mono ?_;rintro e D ⟨rfl,g⟩;have p:=(OZ.new w #[.int .i64 _,.int .i64 a,.int .i64 b,.int .i64 c,.string s] 67).below g;obtain⟨R,H,N⟩:=p.boxed;have d:Below w.heap.size w D:=zM (by repeat'(first|with_reducible(first|apply zR|assumption|apply zN|apply zA|apply zD|apply zS)|go_size)) g (zh _);have i:=m.below d;obtain⟨K,F,P⟩:=i.boxed;have aa:=zl d v A;have U:=zl d v r;have X:=d.size;have S:C<D.heap.size:=(by omega)))
  go_region_held3 (fun k=>k.cell? ⟨wb,0,none⟩=some (.slice (some ⟨C,0,none⟩) n x)/\k.cell? ⟨w.heap.size,1,none⟩=some (.int .i64 a)/\k.cell? ⟨C,j*2,none⟩=some (.pointer (some ⟨q1,0,none⟩))/\k.cell? ⟨C,j*2+1,none⟩=some (.pointer (some ⟨q2,0,none⟩))) (go_keep) (first|(go_at_call 95;refine(Q.out _).mono ?_;rintro e k ⟨rfl,J⟩;obtain rfl:=J.symm))
  all_goals
   go_wp2_with (first|(go_at_call 96;refine(G.out _ (by exact(by repeat'(first|with_reducible(first|apply zR|assumption|apply zN|apply zA|apply zD|apply zS)|go_size)))).mono ?_;rintro e w3 ⟨rfl,M,O⟩))
   go_ret;exact⟨rfl,M,(Below.mono (w:=w) (by repeat'(first|with_reducible(first|apply zR|assumption|apply zN|apply zA|apply zD|apply zS)|go_size)) Y).trans O.out⟩
 ·simp only[jH] at m E;go_enter func57,ntmps57;go_wp2_with (first|(go_at_call 94;refine(z.out _).mono ?_;rintro e D ⟨rfl,g⟩;have p:=(OZ.new w #[.int .i64 _,.int .i64 a,.int .i64 b,.int .i64 c,.string s] 67).below g;obtain⟨R,H,N⟩:=p.boxed;have d:Below w.heap.size w D:=zM (by repeat'(first|with_reducible(first|apply zR|assumption|apply zN|apply zA|apply zD|apply zS)|go_size)) g (zh _);have i:=m.below d;obtain⟨K,F,P⟩:=i.boxed))
  go_ret;exact jQ.kept E.out d
theorem Hd(h:PP B w wb ps rs row psv rsv rowv)(ha:-9223372036854775808<=a/\a<=9223372036854775807)(hn:rs.length<=1048576)(hr:row.length<=1048576):
  Calls prog 57 #[.pointer (some ⟨wb,0,none⟩),.agg #[.int .i64 10,.int .i64 a,.int .i64 b,.int .i64 c,.string s]] w fun e k=>jQ B w wb ps.length rs.length row.length e k:=by
 have G:=OY h;have hB:=zT h.low (jX h.box.lt);have o:=h.box;have m:=h.ors;obtain⟨ab,z,rfl⟩:=zq m;have C:=OY fun W=>C8 W wb 10 a b c s (ze rfl);clear h;have f:0<rs.length∨rs=[]:=by
  cases rs
  ·exact ze rfl
  ·exact zf (by simp)
 rcases f with f|rfl
 ·obtain⟨g,q⟩:∃g,g=lm a rs.length:=⟨_,rfl⟩;have v:g<rs.length:=by rw[q];exact AZ a f
  have S:Hid (∀W:World,Calls prog 95 #[.int .i64 a,.int .i64 rs.length] W fun e k=>e=.returned (.int .i64 (g:Int))/\k=W):=fun W=>by rw[q];exact A4 W a rs.length f (by omega) ha
  clear q;obtain⟨u,N,V,_,p,l⟩:=y7 m (by omega);simp only[Value.slice.injEq] at V;obtain⟨rfl,_,rfl⟩:=V;obtain⟨A,x,y⟩:=Es rs g v;have D:=l _ _ A;have t:=l _ _ x;have E:=l _ _ y;have I:=OY fun W (hW:Below w.heap.size w W)=>Hz B W wb ps rs row psv _ rowv (G.out.below hW) rs[g] (zu v) a b c s hr;clear A x y G m l;generalize rs[g].1=q1 at *;generalize rs[g].2.1=q2 at *;generalize rs[g].2.2.1=q3 at *;generalize K:rs.length=n at *;clear K;go_enter func57,ntmps57;go_wp2_with (first|(go_at_call 94;refine(C.out _).mono ?_;rintro e F ⟨rfl,i⟩;have r:=(OZ.new w #[.int .i64 _,.int .i64 a,.int .i64 b,.int .i64 c,.string s] 67).below i;obtain⟨T,J,P⟩:=r.boxed;have d:Below w.heap.size w F:=zM (by repeat'(first|with_reducible(first|apply zR|assumption|apply zN|apply zA|apply zD|apply zS)|go_size)) i (zh _);have j:=o.below d;obtain⟨M,H,R⟩:=j.boxed;have aa:=zl d p D;have Y:=zl d p t;have X:=zl d p E;have Z:=d.size;have U:u<F.heap.size:=(by omega)))
  go_region_held3 (fun k=>k.cell? ⟨wb,1,none⟩=some (.slice (some ⟨u,0,none⟩) n z)/\k.cell? ⟨w.heap.size,1,none⟩=some (.int .i64 a)/\k.cell? ⟨u,g*3,none⟩=some (.pointer (some ⟨q1,0,none⟩))/\k.cell? ⟨u,g*3+1,none⟩=some (.pointer (some ⟨q2,0,none⟩))/\k.cell? ⟨u,g*3+2,none⟩=some (.pointer (some ⟨q3,0,none⟩))) (go_keep) (first|(go_at_call 95;refine(S.out _).mono ?_;rintro e k ⟨rfl,L⟩;obtain rfl:=L.symm))
  all_goals
   go_wp2_with (first|(go_at_call 97;refine(I.out _ (by exact(by repeat'(first|with_reducible(first|apply zR|assumption|apply zN|apply zA|apply zD|apply zS)|go_size)))).mono ?_;rintro e w3 ⟨rfl,O,Q⟩))
   go_ret;exact⟨rfl,O,(Below.mono (w:=w) (by repeat'(first|with_reducible(first|apply zR|assumption|apply zN|apply zA|apply zD|apply zS)|go_size)) hB).trans Q.out⟩
 ·simp only[jH] at o G;go_enter func57,ntmps57;go_wp2_with (first|(go_at_call 94;refine(C.out _).mono ?_;rintro e F ⟨rfl,i⟩;have r:=(OZ.new w #[.int .i64 _,.int .i64 a,.int .i64 b,.int .i64 c,.string s] 67).below i;obtain⟨T,J,P⟩:=r.boxed;have d:Below w.heap.size w F:=zM (by repeat'(first|with_reducible(first|apply zR|assumption|apply zN|apply zA|apply zD|apply zS)|go_size)) i (zh _);have j:=o.below d;obtain⟨M,H,R⟩:=j.boxed))
  go_ret;exact jQ.kept G.out d
end
theorem MO(B:Nat)(w:World)(wb:Nat)(ps:List vc)(rs:List vh)(row:List ByteArray)(psv rsv rowv:Value)(x:PZ)(h:PP B w wb ps rs row psv rsv rowv)(d:Qu [1,7,10] x.kind)(t:QW x)(o:x.s.size<=1048576)(k:ps.length<=1048576)(i:rs.length<=1048576)(l:row.length<=1048576):
  Calls prog 57 #[.pointer (some ⟨wb,0,none⟩),.agg #[.int .i64 x.kind,.int .i64 x.a,.int .i64 x.b,.int .i64 x.c,.string x.s]] w fun e m=>jQ B w wb ps.length rs.length row.length e m:=by
 obtain⟨j,n,r⟩:=t;have g:=zT h.low (jX h.box.lt);rcases d with d|d|d
 ·rw[d];exact AT g fun W f=>JX B W wb ps rs row psv rsv rowv _ _ _ _ (h.below f) l
 ·rw[d];exact AT g fun W f=>(KD W wb _ _ _ _ _ _ _ _ _ _ _ _ _ _ _ _ _ (h.below f).box).mono fun e m q=>by obtain⟨rfl,p⟩:=q;exact jQ.kept (h.below f) p
 ·simp only[zw,lB,or_false] at d;rcases d with d|d|d<;>rw[d]
  ·exact Gs h o k
  ·exact Ni h j n r k i
  ·exact Hd h j i l
end
theorem PP.start(w:World):PP w.heap.size (w.alloc (.cells #[.slice none 0 0,.slice none 0 0,.slice none 0 0,.slice none 0 0,.int .i64 0,.int .i64 0,.int .i64 0,.slice none 0 0,.bool true,.slice none 0 0,.slice none 0 0,.slice none 0 0,.slice none 0 0,.slice none 0 0] 35)) w.heap.size [] [] [] (.slice none 0 0) (.slice none 0 0) (.slice none 0 0):=
 ⟨zh _,OZ.new _ _ _,yK _ _ _ _,yK _ _ _ _,yK _ _ _ _,(by simp),(by simp)⟩
theorem NP(w:World)(v:Value)(l:List PZ)(h:Q2 w v l)(C:∀x∈l,Qu [1,7,10] x.kind/\QW x)(hl:l.length<=1048576)(N:∀x∈l,x.s.size<=1048576):
  Calls prog 31 #[v] w fun e L=>e=.returned (.int .i64 (-1))/\Below w.heap.size w L:=by
 obtain⟨ao,Y,rfl⟩:=h.qw;have I:=OY C;have W:=OY N;clear C N;go_enter func31,ntmps31;go_wp2;go_loopw [4] (fun Z wr=>∃k:Nat,k<=l.length/\Z=.int .i64 k/\Hid (∃u y row f g c,u.length<=k/\y.length<=k/\row.length<=k/\PP w.heap.size wr w.heap.size u y row f g c)/\Below w.heap.size w wr) (fun i _=>l.length-(intOf i).toNat)
 case atStart=>exact⟨0,zv _,rfl,⟨[],[],[],_,_,_,zh _,zh _,zh _,PP.start w⟩,(by repeat'(first|with_reducible(first|apply zR|assumption|apply zN|apply zA|apply zD|apply zS)|go_size))⟩
 case round=>
  obtain⟨k,C,rfl,m,a⟩:=hrel;have P:=a.size;by_cases d:k<l.length
  ·obtain⟨b,o,rfl,t,J,Q,O,R,M⟩:=h.cell k d;have X:=zl a t J;have U:=zl a t Q;have T:=zl a t O;have S:=zl a t R;have aa:=zl a t M;have V:b<wr.heap.size:=by omega
   obtain⟨u,y,row,f,g,c,g1,g2,g3,K⟩:=m.out;have D:=OY (MO w.heap.size wr w.heap.size u y row f g c l[k] K (I.out _ (zu d)).1 (I.out _ (zu d)).2 (W.out _ (zu d)) (by omega) (by omega) (by omega));clear J Q O R M K m;generalize l[k]=x at *;go_wp2_with (first|(go_at_call 57;refine D.out.mono ?_;rintro e w1 ⟨rfl,s,B⟩;obtain⟨H,F,r,q,p,j,d1,d2,d3,E⟩:=s.out;have G:=OY E;have n:=E.box;have z:=a.trans B.out;clear E s)|(go_at_call 58;refine(Ii _ w.heap.size _ _ _ _ _ _ _ _ _ _ n).mono ?_;rintro e L ⟨rfl,A⟩;obtain rfl:=A.symm))
   go_roundw
   case rel=>exact⟨k+1,by omega,by go_num,⟨H,F,r,q,p,j,by omega,by omega,by omega,G.out⟩,z⟩
   case measure=>simp[intOf];omega
  ·go_wp2;go_ret;exact⟨rfl,a⟩
theorem GS(w:World)(v:Value)(l:List PZ)(h:Q2 w v l)(k:∀x∈l,QW x):
  Calls prog 7 #[v] w fun e o=>e=.returned (.bool true)/\Below w.heap.size w o:=by
 have a:Hid (DH l [1,7,10]):=fun W g m i d n f=>NP W g m i (fun x c=>⟨(d x c).2,k x (d x c).1⟩) n f;obtain⟨q,j,rfl⟩:=h.qw;go_enter func7,ntmps7;go_wp2_with (first|(go_at_call 15;refine(LC _ _ l (by exact h.below (by repeat'(first|with_reducible(first|apply zR|assumption|apply zN|apply zA|apply zD|apply zS)|go_size))) _ [1,7,10] ⟨_,NR _ [.int .i64 1,.int .i64 7,.int .i64 10] _ (by decide)⟩ (by decide) a.out).mono ?_;rintro e p ⟨rfl,b⟩))
 go_ret;exact⟨rfl,Pc ((zo w.heap.size w).alloc (zh _) _) b⟩
end Go.Proofs.YteampbddflhngaaGreat
