import Derived.Test.YteampbddflhngaaGreatV47
import Derived.Test.YteampbddflhngaaGreatV49
namespace Go.Proofs.YteampbddflhngaaGreat
set_option linter.all false
set_option maxRecDepth 100000
set_option maxHeartbeats 8000000
open Go.Proofs.Tryz Go.RowKit
section
variable {z:Nat}{l:List ByteArray}
def Qn(z:Nat)(w:World)(v:Value)(l:List ByteArray):Prop:=Pg 0 w v l/\v.ownBlock≠some z
theorem Qn.below{w a:World}{v:Value}{l:List ByteArray}(h:Qn z w v l)(b:Below w.heap.size w a):Qn z a v l:=⟨h.1.below b,h.2⟩
theorem Qn.saveT{w a:World}{v:Value}{M:List Nat}{T:TypeId}(h:Qn z w v l)(c:zd M w a)(b:Px w T M)(d:9≠T):Qn z a v l:=⟨yE h.1 c b d,h.2⟩
theorem Qn.of{lo:Nat}{w:World}{v:Value}(h:Pg lo w v l)(a:z<lo):Qn z w v l:=⟨yr h (zv _),fun e=>by have:=yW h e;omega⟩
theorem OI:(prog.info? 30).map (fun i=>(i.zero,i.size,i.bytes))=some (some (.slice none 0 0),1,24):=by kernel_rfl
structure QM (z:Nat) (w:World) (gb go:Nat) (c:zc):Prop where
 lt:gb<w.heap.size
 pred:w.cell? ⟨gb,go+1,none⟩=some (.string c.head.pred)
 args:∃av,w.cell? ⟨gb,go+2,none⟩=some av/\Qn z w av c.head.args
 body:∃ao cap,w.cell? ⟨gb,go+3,none⟩=some (.slice ao c.body.length cap)/\∀j (h:j<c.body.length),∃g,ao=some ⟨g,0,none⟩/\g<w.heap.size/\w.cell? ⟨g,j*3,none⟩=some (.bool c.body[j].neg)/\w.cell? ⟨g,j*3+1,none⟩=some (.string c.body[j].pred)/\∃av,w.cell? ⟨g,j*3+2,none⟩=some av/\Pg 0 w av c.body[j].args
theorem QM.below{w k:World}{i m:Nat}{c:zc}(h:QM z w i m c)(a:Below w.heap.size w k):QM z k i m c:=by
 obtain⟨b,t,⟨f,u,q⟩,o,e,n,x⟩:=h;refine⟨xo b a.size,(zl a b t),⟨f,(zl a b u),q.below a⟩,o,e,(zl a b n),fun j s=>?_⟩;obtain⟨g,y,d,r,A,f,p,v⟩:=x j s;exact⟨g,y,xo d a.size,(zl a d r),(zl a d A),f,(zl a d p),v.below a⟩
structure fq (z:Nat) (w:World) (mb rd gb go:Nat) (fv vv lv:Value) (c:zc) (fs:List z7) (B:y6):Prop where
 model:OZ w mb #[fv,.int .i64 rd] 54
 facts:lZ w fv fs
 cl:QM z w gb go c
 fst:Pg 0 w vv (xj B)
 snd:Pg 0 w lv (xP B)
 hz:z<w.heap.size
theorem fq.below{w k:World}{j f i b:Nat}{e d g:Value}{c:zc}{fs:List z7}{B:y6}(h:fq z w j f i b e d g c fs B)(a:Below w.heap.size w k):fq z k j f i b e d g c fs B:=⟨h.model.below a,h.facts.below a,h.cl.below a,h.fst.below a,h.snd.below a,xo h.hz a.size⟩
def uY(z lo:Nat)(w:World)(v:Value)(a:List (List ByteArray)):Prop:=∃b:List Value,b.length=a.length/\w.ownsRow lo 30 1 v a.length b/\∀i (h:i<a.length) (c:i<b.length),Qn z w b[i] a[i]
theorem uY.nil(lo:Nat)(w:World):uY z lo w (.slice none 0 0) []:=⟨[],rfl,yK _ _ _ _,fun i h=>by cases h⟩
theorem uY.below{lo:Nat}{w f:World}{v:Value}{c:List (List ByteArray)}(h:uY z lo w v c)(e:Below w.heap.size w f):uY z lo f v c:=by
 obtain⟨d,j,g,k⟩:=h;exact⟨d,j,zE g e,fun i a b=>(k i a b).below e⟩
theorem Jq(w:World)(mb rd C L:Nat)(fv r s:Value)(c:zc)(fs:List z7)(B:y6)(Y:fq z w mb rd C L fv r s c fs B)(aL:c.body.length<=100)(aI:B.length<=100)(R:∀l∈zm c,l.args.length<=100/\∀a∈l.args,0<a.size)(a3:fs.length<=10000000)(ar:∀f∈fs,f.2.1.length<=1000000):
  Calls prog 166 #[.pointer (some ⟨mb,0,none⟩),.pointer (some ⟨C,L,none⟩),.int .i64 c.body.length,.agg #[r,s]] w fun e d=>∃v,e=.returned v/\Hid (uY z w.heap.size d v (ye fs c.head c.body [] B))/\Hid (Below w.heap.size w d):=by
 obtain⟨i0,hi,a5,a4,aA⟩:=info_parts OI;obtain⟨ao,O,au,_⟩:=Y.cl.body;have A:=OY fun W (i:Below w.heap.size w W)=>Y.below i;have y:Hid (∀W,Below w.heap.size w W->W.cell? ⟨C,L+3,none⟩=some (.slice ao c.body.length O)/\C<W.heap.size):=fun W i=>⟨(i.cell (p:=⟨C,L+3,none⟩) Y.cl.lt).trans au,(Y.below i).cl.lt⟩;have ah:Hid (∀W j (t:j<c.body.length),Below w.heap.size w W->∃g,ao=some ⟨g,0,none⟩/\g<W.heap.size/\W.cell? ⟨g,j*3,none⟩=some (.bool c.body[j].neg)/\W.cell? ⟨g,j*3+1,none⟩=some (.string c.body[j].pred)/\∃n,W.cell? ⟨g,j*3+2,none⟩=some n/\Pg 0 W n c.body[j].args):=fun W j t i=>by
  obtain⟨aG,aF,K,q2⟩:=(Y.below i).cl.body;rw[(y.out W i).1] at K;cases K;exact q2 j t
 have U:Hid (∀W (l:zj) n,l∈zm c->Below w.heap.size w W->Pg 0 W n l.args->Calls prog 195 #[.agg #[r,s],n] W fun e d=>∃v,e=.returned v/\Hid (Pg W.heap.size d v (yB B l.args))/\Hid (Below W.heap.size W d)):=fun W l n hl i ha=>J8 W r s n B l.args (A.out W i).fst (A.out W i).snd ha (by omega) (by have:=(R _ hl).1;omega) (R _ hl).2;have ae:Hid (∀W j (t:j<c.body.length) rv al,Below w.heap.size w W->Pg al W rv (yB B c.body[j].args)->Calls prog 45 #[.pointer (some ⟨mb,0,none⟩),.string c.body[j].pred,rv] W fun e d=>e=.returned (.int .i64 (jj c.body[j].pred (yB B c.body[j].args) fs))/\Below W.heap.size W d):=fun W j t rv al i hr=>e6 W mb rd fv fs _ rv _ (A.out W i).model (A.out W i).facts hr a3 (by have:=(R c.body[j] (by simp[zm])).1;simp[yB];omega) ar;have H:Hid (∀k (hk:k<c.body.length),c.body[k].neg=true->(yC c.body[k].pred (yB B c.body[k].args) fs).isSome=true->ye fs c.head c.body [] B=[]):=fun k hk hn hs=>by
  unfold ye;rw[zb];rw[kY];exact⟨c.body[k],zu _,by rw[hn,hs];rfl⟩
 have F:Hid ((∀k (hk:k<c.body.length),¬(c.body[k].neg=true/\(yC c.body[k].pred (yB B c.body[k].args) fs).isSome=true))->ye fs c.head c.body [] B=[yB B c.head.args]):=fun q=>by
  unfold ye;rw[za];intro hq;rw[kY] at hq;obtain⟨l,hl,hq⟩:=hq;obtain⟨j,t,rfl⟩:=vl hl;rw[uZ] at hq;exact q j t hq
 have a9:Hid (∀W,Below w.heap.size w W->∃n,W.cell? ⟨C,L+2,none⟩=some n/\Pg 0 W n c.head.args):=fun W i=>by
  obtain⟨n,K,q2⟩:=(A.out W i).cl.args;exact⟨n,K,q2.1⟩
 have hz:=Y.hz;obtain⟨P,o⟩:=y.out w (zo _ _);clear Y A R ar au;generalize ye fs c.head c.body [] B=aJ at *;go_enter func166,ntmps166;go_upto_region 2 with fail
 have aq:Hid (Below w.heap.size w (w.alloc (.cells #[r,s] 270))):=(zo _ _).alloc (zh _) _;have ad:Hid (∀W,Below (w.alloc (.cells #[r,s] 270)).heap.size (w.alloc (.cells #[r,s] 270)) W->W.cell? ⟨w.heap.size,0,none⟩=some r/\W.cell? ⟨w.heap.size,1,none⟩=some s/\w.heap.size<W.heap.size):=fun W i=>by
  have q:=(OZ.new w #[r,s] 270).below i;exact⟨by rw[q.rules.1];rfl,by rw[q.rules.1];rfl,q.lt⟩
 clear P o;obtain⟨P,o⟩:=y.out _ aq.out;generalize aC:w.alloc (.cells #[r,s] 270)=wA at *;clear aC;go_wp2;clear P o;go_loopw [10,11,12] (fun af _ _ wr=>∃k:Nat,k<=c.body.length/\af=.int .i64 k/\Hid (∀j (t:j<c.body.length),j<k->¬(c.body[j].neg=true/\(yC c.body[j].pred (yB B c.body[j].args) fs).isSome=true))/\Hid (Below wA.heap.size wA wr)) (fun af _ _ _=>c.body.length-(intOf af).toNat)
 case atStart=>exact⟨0,by omega,rfl,fun j t h2=>by omega,zo _ _⟩
 case round=>
  obtain⟨k,hk,rfl,HN,D⟩:=hrel;have u:=OY (Pc aq.out D.out);obtain⟨P,o⟩:=y.out _ u.out;obtain⟨b0,b1,am⟩:=ad.out _ D.out;by_cases G:k<c.body.length
  ·have az:(k:Int)<(c.body.length:Int):=by omega
   obtain⟨g,rfl,hg,_,_,n,c2,J⟩:=ah.out _ k G u.out;have I:Hid (∀W,Below wr.heap.size wr W->Calls prog 195 #[.agg #[r,s],n] W fun e d=>∃v,e=.returned v/\Hid (Pg w.heap.size d v (yB B c.body[k].args))/\Hid (Below wr.heap.size wr d)/\d.cell? ⟨g,k*3+2,none⟩=some n/\d.cell? ⟨w.heap.size,0,none⟩=some r/\d.cell? ⟨w.heap.size,1,none⟩=some s/\d.cell? ⟨C,L+3,none⟩=some (.slice (some ⟨g,0,none⟩) c.body.length O)):=fun W i=>by
    have E:=Pc u.out i;refine(U.out W c.body[k] n (by simp[zm]) E (J.below i)).mono ?_;rintro e d ⟨v,K,q2,q3⟩;have m:=Pc i q3.out;obtain⟨b0,b1,_⟩:=ad.out d (Pc D.out m);exact⟨v,K,yr q2.out E.size,m,(zl m hg c2),b0,b1,(zl m o P)⟩
   clear J;go_upto_region 6 with fail
   go_cut [11] from 34 to 43 (fun a0 wx=>∃v,a0=v/\Hid (Pg w.heap.size wx v (yB B c.body[k].args))/\Hid (Below wr.heap.size wr wx))
   case first=>
    go_region_held3 (fun d=>d.cell? ⟨g,k*3+2,none⟩=some n/\d.cell? ⟨w.heap.size,0,none⟩=some r/\d.cell? ⟨w.heap.size,1,none⟩=some s/\d.cell? ⟨C,L+3,none⟩=some (.slice (some ⟨g,0,none⟩) c.body.length O)) (first|go_keep|(go_simp;done)) (first|(go_at_call 195;refine(I.out _ (by exact(by repeat'(first|with_reducible(first|apply zR|assumption|apply zN|apply zA|apply zD|apply zS)|go_size)))).mono ?_;rintro e w5 ⟨v5,rfl,ag,aa,z0,z1,z2,z3⟩))
    go_wp2;go_meet
    case rel=>exact⟨_,rfl,ag,aa⟩
   case rest=>
    obtain⟨ap,T,M,N⟩:=hcut;obtain rfl:=T.symm;clear T c2 hg b0 b1 am I P o;have h:=OY (Pc u.out N.out);have ai:=OY (Pc D.out N.out);obtain⟨P,o⟩:=y.out _ h.out;obtain⟨g',e',hg,_,c1,_⟩:=ah.out _ k G h.out;cases e';have V:Hid (Calls prog 45 #[.pointer (some ⟨mb,0,none⟩),.string c.body[k].pred,ap] wc fun e d=>e=.returned (.int .i64 (jj c.body[k].pred (yB B c.body[k].args) fs))/\Hid (Below wc.heap.size wc d)/\g<d.heap.size/\d.cell? ⟨g,k*3,none⟩=some (.bool c.body[k].neg)/\d.cell? ⟨C,L+3,none⟩=some (.slice (some ⟨g,0,none⟩) c.body.length O)/\C<d.heap.size):=by
     refine(ae.out wc k G ap _ h.out M.out).mono ?_;rintro e d ⟨K,q3⟩;have m:=Pc h.out q3;obtain⟨g',e',y1,y2,_⟩:=ah.out _ k G m;cases e';exact⟨K,q3,y1,y2,y.out _ m⟩
    have an:Hid (¬(c.body[k].neg=true/\(yC c.body[k].pred (yB B c.body[k].args) fs).isSome=true)->∀j (t:j<c.body.length),j<k+1->¬(c.body[j].neg=true/\(yC c.body[j].pred (yB B c.body[j].args) fs).isSome=true)):=fun q j t h2=>by
     by_cases a8:j=k
     ·subst a8;exact q
     ·exact HN.out j t (by omega)
    have a1:=OY (H.out k G);have S:Hid ((yC c.body[k].pred (yB B c.body[k].args) fs).isSome=true↔0<=jj c.body[k].pred (yB B c.body[k].args) fs):=by
     unfold Hid jj;cases yC c.body[k].pred (yB B c.body[k].args) fs with
     |none=>simp
     |some z=>simp
    generalize jj c.body[k].pred (yB B c.body[k].args) fs=fi at *;generalize (yC c.body[k].pred (yB B c.body[k].args) fs).isSome=fb at *;generalize c.body[k].pred=pr at *;generalize c.body[k].neg=ng at *;go_upto_region 8 with (first|(go_at_call 45;refine V.out.mono ?_;rintro e w6 ⟨rfl,aw,aK,z0,z3,aE⟩))
    have ax:=OY (Pc h.out aw.out);have X:=OY (Pc ai.out aw.out);clear V c1 P hg o;cases ng with
    |false=>
     have Z:=OY (an.out (by simp));go_wp2;go_roundw
     case rel=>exact⟨k+1,by omega,by go_num,Z,X⟩
     case measure=>simp[intOf];omega
    |true=>
     by_cases ak:0<=fi
     ·have HR:=OY (a1.out rfl (S.out.2 ak));go_wp2;go_ret;exact⟨_,rfl,by rw[Hid,HR.out];exact uY.nil _ _,ax⟩
     ·have Z:=OY (an.out (fun q=>ak (S.out.1 q.2)));go_wp2;go_roundw
      case rel=>exact⟨k+1,by omega,by go_num,Z,X⟩
      case measure=>simp[intOf];omega
  ·have az:¬(k:Int)<(c.body.length:Int):=by omega
   have ab:=OY (F.out fun j t=>HN.out j t (by omega));clear HN F H;obtain⟨n,c2,J⟩:=a9.out _ u.out;have I:Hid (∀W,Below wr.heap.size wr W->Calls prog 195 #[.agg #[r,s],n] W fun e d=>∃v,e=.returned v/\Hid (Pg w.heap.size d v (yB B c.head.args))/\Hid (Below wr.heap.size wr d)/\d.cell? ⟨C,L+2,none⟩=some n/\d.cell? ⟨w.heap.size,0,none⟩=some r/\d.cell? ⟨w.heap.size,1,none⟩=some s):=fun W i=>by
    have E:=Pc u.out i;refine(U.out W c.head n (by simp[zm]) E (J.below i)).mono ?_;rintro e d ⟨v,K,q2,q3⟩;have m:=Pc i q3.out;obtain⟨b0,b1,_⟩:=ad.out d (Pc D.out m);exact⟨v,K,yr q2.out E.size,m,(zl m o c2),b0,b1⟩
   clear J;go_upto_region 10 with fail
   go_cut [13] from 67 to 73 (fun ay wx=>∃v,ay=v/\Hid (Pg w.heap.size wx v (yB B c.head.args))/\Hid (Below wr.heap.size wr wx))
   case first=>
    go_region_held3 (fun d=>d.cell? ⟨C,L+2,none⟩=some n/\d.cell? ⟨w.heap.size,0,none⟩=some r/\d.cell? ⟨w.heap.size,1,none⟩=some s) (first|go_keep|(go_simp;done)) (first|(go_at_call 195;refine(I.out _ (by exact(by repeat'(first|with_reducible(first|apply zR|assumption|apply zN|apply zA|apply zD|apply zS)|go_size)))).mono ?_;rintro e w5 ⟨v5,rfl,ag,aa,z0,z1,z2⟩))
    go_wp2;go_meet
    case rel=>exact⟨_,rfl,ag,aa⟩
   case rest=>
    obtain⟨aH,x,M,N⟩:=hcut;obtain rfl:=x.symm;clear x c2 b0 b1 am I P o;have h:=OY (Pc u.out N.out);obtain⟨av,ac,x⟩:=M.out.qw;subst x;have aD:=h.out.size;generalize (yB B c.head.args).length=rl at *;go_wp2_with (first|(at_builtin;refine jY wc _ _ _ rfl (.tmp 74) (.tmp 76) 31 rfl w.heap.size 30 i0 _ 1 24 underlying31 hi a5 a4 aA rfl (by decide) _ 0 [] rfl (yK _ _ _ _) (zo _ _) _ _ rfl (by simp) rfl (by simp[Value.oneCell']) (by omega) (by omega) (by omega) ?_;intro v' w2 a6 Q a2 aB a7 aj;clear a2 aB))
    go_ret;have hS:zd [] wc w2:=⟨Q.os,Q.tape,Q.output,aj,fun j t _=>a7 j t (show some j≠none from Option.some_ne_none j)⟩;refine⟨_,rfl,⟨[.slice av rl ac],by rw[ab.out];rfl,by rw[ab.out];exact a6,fun j h1 h2=>?_⟩,h.out.trans Q⟩;obtain rfl:j=0:=by simp at h2;exact h2
    have q:=Qn.of (yI M.out hS (fun b _ hm=>by cases hm)) hz;simp only[ab.out,kK];exact q
end
section
variable {z:Nat}{o1 o2:Option Addr}{wo:Option y6}
section
variable {ops:Array Oper} {rest:List Oper} {o:Oper} {a:Act} {Q:Exit->Act->World->Prop}
theorem uY.saveT{lo:Nat}{w g:World}{v:Value}{c:List (List ByteArray)}{M:List Nat}{T:TypeId}(h:uY z lo w v c)(f:zd M w g)(e:Px w T M)(k:30≠T)(j:9≠T):uY z lo g v c:=by
 obtain⟨d,n,l,m⟩:=h;exact⟨d,n,yE l f e k,fun i a b=>(m i a b).saveT f e j⟩
theorem Mb{lo F:Nat}{w:World}(f:o.guard=none)(s x:Operand)
  (K:o.op=.call {callee:=.builtin .append,args:=#[s,x],argTypes:=#[31,31]})
  (p i:List (List ByteArray)) (q M:Value) (O:a.eval s=q) (L:a.eval x=M) (h1:uY z lo w q p) (h2:uY z F w M i) (hl:p.length+i.length<=1000000000000) (G:lo<=w.heap.size)
  (h:∀H y,uY z lo y H (p++i)->zd q.ownBlock.toList w y->wpList prog ops Q rest (a.put o.dst H) y):
  wpList prog ops Q (o::rest) a w:=by
 obtain⟨S,T,B,t,A⟩:=info_parts OI;obtain⟨l,I,g,R⟩:=h1;obtain⟨b,b1,V,N⟩:=h2;have n:∀u∈b,u.oneCell'=true:=by
  intro u Y;obtain⟨j,d,rfl⟩:=kX.1 Y;obtain⟨ao,aa,e⟩:=(N j (by omega) d).1.qw;rw[e];simp[Value.oneCell']
 obtain⟨_,⟨E,U⟩|⟨P,m,ae,E,ab,Z,X,ac,ad,J⟩⟩:=id V
 ·have C:i=[]:=pT U;refine wpList_append_own_none f s x 31 K lo 30 S 1 underlying31 T _ _ _ O g (by rw[L,E]) ?_;refine h _ _ ?_ (zd.refl _ _);rw[C,qA];exact⟨l,I,g,R⟩
 ·have v:∀j u,b[j]?=some u->w.cell? (Addr.add ⟨P,0,none⟩ j)=some u:=fun j u d=>by
   rw[Addr.add_lit,uL];unfold World.cell?;rw[Z];simp only;rw[←J,l9] at d;split at d
   ·simpa using d
   ·simp at d
  refine wpList_append_own _ f s x 31 K lo 30 S _ 1 24 underlying31 T B t A rfl (by decide) _ _ _ O g ⟨P,0,none⟩ i.length m b (by rw[L,E]) (by omega) v n (by unfold maxLen;omega) (by omega) G ?_;intro H W D c _;have r:zd q.ownBlock.toList w W:=⟨c.os,c.tape,c.output,c.size,fun k hk hm=>c.block k hk fun e=>hm (by rw[←e];simp)⟩;refine h _ _ ⟨l++b,by simp[I,b1],by rw[yz];exact D,fun j q1 q2=>?_⟩ r;by_cases d:j<p.length
  ·rw[uT (by omega),uT d];exact(R j d (by omega)).saveT r (Px.own g) (by decide)
  ·rw[lK (by omega),lK (by omega)];simp only[I];simp only[yz] at q1 q2;exact(N _ (by omega) (by omega)).saveT r (Px.own g) (by decide)
end
def dP(fs:List z7)(h:zj)(body rest:List zj)(l:zj)(B:y6)(f:z7):List (List ByteArray):=if f.1=l.pred then(match xn B l.args f.2.1 with|none=>[]|some b=>ye fs h body rest b) else []
theorem Fv{fs:List z7}{h:zj}{body rest:List zj}{l:zj}{B:y6}(b:l.neg=false):ye fs h body (l::rest) B=fs.flatMap (dP fs h body rest l B):=by
 unfold ye;rw[za (by simp[b])];rfl
theorem GO{α β:Type}(f:α->List β)(l:List α){i:Nat}(b:i<l.length):(l.take (i+1)).flatMap f=(l.take i).flatMap f++f l[i]:=by
 rw[yM b,List.flatMap_append];simp
theorem Hv{α β:Type}(f:α->List β)(l:List α)(i:Nat):((l.take i).flatMap f).length<=(l.flatMap f).length:=by
 conv=>rhs;rw[←qO i l]
 rw[List.flatMap_append,yz];omega
def Qv(d w:World)(m:Nat)(wo:Option y6)(s:Value):Prop:=∃(h e g:Nat) (o1:Option Addr) (c f:Nat) (o2:Option Addr),s=.pointer (some ⟨h,0,none⟩)/\Hid (∀b,wo=some b->Pg 0 w (.slice o1 e g) (xj b)/\Pg 0 w (.slice o2 c f) (xP b)/\b.length<=m)/\Hid (OZ w h #[.slice o1 e g,.slice o2 c f] 270)/\Hid (Below d.heap.size d w)
theorem Qv.one{j b:World}{m f i d g:Nat}(l:Below j.heap.size j b)(h:∀c,wo=some c->Pg 0 b (.slice o1 f i) (xj c)/\Pg 0 b (.slice o2 d g) (xP c)/\c.length<=m):Qv j (b.alloc (.cells #[.slice o1 f i,.slice o2 d g] 270)) m wo (.pointer (some ⟨b.heap.size,0,none⟩)):=by
 have k:Below b.heap.size b (b.alloc (.cells #[.slice o1 f i,.slice o2 d g] 270)):=(zo _ _).alloc (zh _) _;exact⟨_,f,i,o1,d,g,o2,rfl,fun c e=>⟨(h c e).1.below k,(h c e).2.1.below k,(h c e).2.2⟩,OZ.new b _ _,Pc l k⟩
theorem Qv.two{n d:World}{m g j f i c:Nat}{w x:Value}(k:n.heap.size<=c)(u:Below n.heap.size n d)(p:OZ d c #[w,x] 270)(h:∀b,wo=some b->Pg 0 d (.slice o1 g j) (xj b)/\Pg 0 d (.slice o2 f i) (xP b)/\b.length<=m):Qv n ((d.setCell ⟨c,0,none⟩ (.slice o1 g j)).setCell ⟨c,1,none⟩ (.slice o2 f i)) m wo (.pointer (some ⟨c,0,none⟩)):=by
 have r:=p.set 0 (.slice o1 g j);have t:=r.set 1 (.slice o2 f i);have s:∀v l,Pg 0 d v l->Pg 0 ((d.setCell ⟨c,0,none⟩ (.slice o1 g j)).setCell ⟨c,1,none⟩ (.slice o2 f i)) v l:=fun v l q=>yE (yE q (zd.set _ _ _ _) (Px.box p) (by decide)) (zd.set _ _ _ _) (Px.box r) (by decide);exact⟨c,g,j,o1,f,i,o2,rfl,fun b e=>⟨s _ _ (h b e).1,s _ _ (h b e).2.1,(h b e).2.2⟩,show OZ _ _ _ _ by simpa using t,(u.setCell k _).setCell k _⟩
theorem Oj(w:World)(x N u A:Nat)(M m j:Value)(c:zc)(fs:List z7)(B:y6)(l:zj)(rest:List zj)(k:Nat)(y:fq z w x N u A M m j c fs B)(Z:c.body.length<=30)(G:k<c.body.length)(q:c.body[k]=l)(aa:B.length<=3*k)(O:vG B)(C:l.neg=true)(i:(ye fs c.head c.body (l::rest) B).length<=1000000000000)(d:Hid (∀W n t (s:y6),s.length<=3*(k+1)->vG s->(ye fs c.head c.body rest s).length<=1000000000000->fq z W x N u A M n t c fs s->Calls prog 166 #[.pointer (some ⟨x,0,none⟩),.pointer (some ⟨u,A,none⟩),.int .i64 ((k:Int)+1),.agg #[n,t]] W fun e p=>∃v,e=.returned v/\Hid (uY z W.heap.size p v (ye fs c.head c.body rest s))/\Hid (Below W.heap.size W p))):
  Calls prog 166 #[.pointer (some ⟨x,0,none⟩),.pointer (some ⟨u,A,none⟩),.int .i64 k,.agg #[m,j]] w fun e p=>∃v,e=.returned v/\Hid (uY z w.heap.size p v (ye fs c.head c.body (l::rest) B))/\Hid (Below w.heap.size w p):=by
 have f:Hid (ye fs c.head c.body (l::rest) B=ye fs c.head c.body rest B):=by
  unfold Hid;rw[ye,zb C]
 rw[f.out] at i;have h:Hid (Below w.heap.size w (w.alloc (.cells #[m,j] 270))):=(zo _ _).alloc (zh _) _;have E:=OY (y.below h.out);obtain⟨ao,S,c3,L⟩:=E.out.cl.body;obtain⟨g,rfl,hg,V,_⟩:=L k G;rw[q,C] at V;have R:=E.out.cl.lt;have b:=OZ.new w #[m,j] 270;have b0:=b.rules.1 0;have b1:=b.rules.1 1;have Y:=b.lt;have I:=OY (d.out _ m j B (by omega) O i E.out);obtain⟨_,_,d3,_⟩:=y.cl.body;have r:=y.cl.lt;have K:((k:Int) == (c.body.length:Int))=false:=by simp;omega
 have P:(k:Int)<(c.body.length:Int):=by omega
 generalize ye fs c.head c.body (l::rest) B=U at *;clear y L b O i d q C;go_enter func166,ntmps166;go_upto_region 2 with fail
 generalize H:w.alloc (.cells #[m,j] 270)=wA at *;clear H d3 r;go_wp2_with (first|(go_at_call 166;refine I.out.mono ?_;rintro e w1 ⟨v1,rfl,F,D⟩))
 go_ret;obtain⟨J,q1,X,T⟩:=F.out;exact⟨_,rfl,by rw[Hid,f.out];exact⟨J,q1,yr X h.out.size,T⟩,Pc h.out D.out⟩
theorem IT(w:World)(mb rd Z go:Nat)(fv D E:Value)(c:zc)(fs:List z7)(B:y6)(l:zj)(rest:List zj)(k:Nat)(V:fq z w mb rd Z go fv D E c fs B)(bu:c.body.length<=30)(ag:l.args.length<=3/\∀a∈l.args,0<a.size)(br:fs.length<=10000000)(a0:∀f∈fs,f.1=l.pred->f.2.1.length=l.args.length)(ar:∀f∈fs,∀x∈f.2.1,x≠ByteArray.empty)(ba:k<c.body.length)(aC:c.body[k]=l)(bs:B.length<=3*k)(hF:vG B)(hn:l.neg=false)(aq:(ye fs c.head c.body (l::rest) B).length<=1000000000000)(a2:Hid (∀W aB aA (d:y6),d.length<=3*(k+1)->vG d->(ye fs c.head c.body rest d).length<=1000000000000->fq z W mb rd Z go fv aB aA c fs d->Calls prog 166 #[.pointer (some ⟨mb,0,none⟩),.pointer (some ⟨Z,go,none⟩),.int .i64 ((k:Int)+1),.agg #[aB,aA]] W fun e j=>∃v,e=.returned v/\Hid (uY z W.heap.size j v (ye fs c.head c.body rest d))/\Hid (Below W.heap.size W j))):
  Calls prog 166 #[.pointer (some ⟨mb,0,none⟩),.pointer (some ⟨Z,go,none⟩),.int .i64 k,.agg #[D,E]] w fun e j=>∃v,e=.returned v/\Hid (uY z w.heap.size j v (ye fs c.head c.body (l::rest) B))/\Hid (Below w.heap.size w j):=by
 obtain⟨ao,ay,rfl,_⟩:=id V.facts;obtain⟨a4,L,aF,_⟩:=V.cl.body;have t:=Fv (fs:=fs) (h:=c.head) (body:=c.body) (rest:=rest) (B:=B) hn;rw[t] at aq;have aL:=OY t;have az:=OY fun W (m:Below w.heap.size w W)=>V.below m;have S:Hid (∀W,Below w.heap.size w W->W.cell? ⟨Z,go+3,none⟩=some (.slice a4 c.body.length L)/\Z<W.heap.size):=fun W m=>⟨(m.cell (p:=⟨Z,go+3,none⟩) V.cl.lt).trans aF,(V.below m).cl.lt⟩;have aO:Hid (∀W,Below w.heap.size w W->∃g,a4=some ⟨g,0,none⟩/\g<W.heap.size/\W.cell? ⟨g,k*3,none⟩=some (.bool false)/\W.cell? ⟨g,k*3+1,none⟩=some (.string l.pred)/\∃F,W.cell? ⟨g,k*3+2,none⟩=some F/\Pg 0 W F l.args):=fun W m=>by
  obtain⟨aT,aN,G,X⟩:=(V.below m).cl.body;rw[(S.out W m).1] at G;cases G;have:=X k ba;rw[aC,hn] at this;exact this
 have a9:Hid (∀W,Below w.heap.size w W->W.cell? ⟨mb,0,none⟩=some (.slice ao fs.length ay)/\mb<W.heap.size):=fun W m=>⟨by rw[(V.below m).model.rules.1];rfl,(V.below m).model.lt⟩;have bd:Hid (∀W i (T:i<fs.length),Below w.heap.size w W->∃J s,ao=some ⟨J,0,none⟩/\J<W.heap.size/\W.cell? ⟨J,i*3,none⟩=some (.string fs[i].1)/\W.cell? ⟨J,i*3+1,none⟩=some s/\∃lo,Pg lo W s fs[i].2.1):=fun W i T m=>by
  obtain⟨aT,aN,e,q⟩:=(V.below m).facts;cases e;obtain⟨J,s,lo,r1,r2,r3,r4,_,r6⟩:=q i T;exact⟨J,s,r1,r2,r3,r4,lo,r6⟩
 have U:Hid (∀W i (T:i<fs.length) F s P,fs[i].1=l.pred->Below w.heap.size w W->Pg 0 W F l.args->Pg P W s fs[i].2.1->Calls prog 196 #[.agg #[D,E],F,s] W fun e j=>∃(I Y:Nat) (o1:Option Addr) (H M:Nat) (o2:Option Addr),e=.returned (.tuple #[.agg #[.slice o1 I Y,.slice o2 H M],.bool (xn B l.args fs[i].2.1).isSome])/\Hid (∀d,xn B l.args fs[i].2.1=some d->Pg 0 j (.slice o1 I Y) (xj d)/\Pg 0 j (.slice o2 H M) (xP d)/\d.length<=3*(k+1))/\Hid (Below W.heap.size W j)):=fun W i T F s P hp m ha hr=>by
  refine(He W D E F s B l.args fs[i].2.1 (az.out W m).fst (az.out W m).snd ha hr (by omega) (by omega) (a0 _ (zu T) hp) ag.2 hF (ar _ (zu T))).mono ?_;rintro e j ⟨I,Y,o1,H,M,o2,G,X,q3⟩;refine⟨I,Y,o1,H,M,o2,G,fun d aR=>?_,q3⟩;obtain⟨r1,r2,r3⟩:=X.out d aR;exact⟨yr r1 (zv _),yr r2 (zv _),by have:=ag.1;omega⟩
 have al:Hid (∀i (T:i<fs.length) d,fs[i].1=l.pred->xn B l.args fs[i].2.1=some d->vG d):=fun i T d hp hq=>(ny l.args fs[i].2.1 B d (a0 _ (zu T) hp).symm (ar _ (zu T)) (fun a ha e=>by have:=ag.2 a ha;rw[e] at this;exact zC this (by decide)) hF hq).1;have aW:=OY aq;obtain⟨c3,r⟩:=S.out w (zo _ _);have bp:((k:Int) == (c.body.length:Int))=false:=by simp;omega
 have bq:(k:Int)<(c.body.length:Int):=by omega
 clear V ag a0 ar aF t aq hF hn aC;generalize ye fs c.head c.body (l::rest) B=bt at *;go_enter func166,ntmps166;go_upto_region 2 with fail
 have ac:Hid (Below w.heap.size w (w.alloc (.cells #[D,E] 270))):=(zo _ _).alloc (zh _) _;have be:Hid (∀W,Below (w.alloc (.cells #[D,E] 270)).heap.size (w.alloc (.cells #[D,E] 270)) W->W.cell? ⟨w.heap.size,0,none⟩=some D/\W.cell? ⟨w.heap.size,1,none⟩=some E/\w.heap.size<W.heap.size):=fun W m=>by
  have q:=(OZ.new w #[D,E] 270).below m;exact⟨by rw[q.rules.1];rfl,by rw[q.rules.1];rfl,q.lt⟩
 clear c3 r;obtain⟨c3,r⟩:=S.out _ ac.out;obtain⟨g,rfl,hg,c0,_⟩:=aO.out _ ac.out;generalize bh:w.alloc (.cells #[D,E] 270)=wA at *;clear bh;go_wp2;clear c3 r c0 hg;go_loopw [9,14,15,16,17] (fun v9 aw _ _ _ wr=>∃i:Nat,i<=fs.length/\aw=.int .i64 i/\Hid (uY z wA.heap.size wr v9 ((fs.take i).flatMap (dP fs c.head c.body rest l B)))/\Hid (Below wA.heap.size wA wr)) (fun _ aw _ _ _ _=>fs.length-(intOf aw).toNat)
 case atStart=>exact⟨0,zv _,rfl,uY.nil _ _,zo _ _⟩
 case round=>
  obtain⟨i,T,rfl,aa,af⟩:=hrel;have u:=OY (Pc ac.out af.out);obtain⟨m0,ad⟩:=a9.out _ u.out;by_cases ae:i<fs.length
  ·have bc:(i:Int)<(fs.length:Int):=by omega
   have O:Hid ((fs.take (i+1)).flatMap (dP fs c.head c.body rest l B)=(fs.take i).flatMap (dP fs c.head c.body rest l B)++dP fs c.head c.body rest l B fs[i]):=GO _ _ ae;have bi:Hid (((fs.take (i+1)).flatMap (dP fs c.head c.body rest l B)).length<=1000000000000):=zT (Hv _ _ _) aW.out;obtain⟨J,s,rfl,ax,f0,f1,P,au⟩:=bd.out _ i ae u.out;obtain⟨g',e',hg,_,Y,F,M,av⟩:=aO.out _ u.out;cases e';obtain⟨c3,r⟩:=S.out _ u.out;by_cases he:fs[i].1=l.pred
   ·have aS:=ka he;have C:Hid (dP fs c.head c.body rest l B fs[i]=(match xn B l.args fs[i].2.1 with|none=>[]|some d=>ye fs c.head c.body rest d)):=zb he;have a5:=OY fun W F s P G X q3=>U.out W i ae F s P he G X q3;have aY:=OY fun d q=>al.out i ae d he q;generalize dP fs c.head c.body rest l B fs[i]=sn at *;clear he U al;generalize fs[i].1=x at *;generalize fs[i].2.1=rw at *;go_upto_region 17 with fail
    go_quiet (fail)
    have aJ:=OY (aa.out.below (lN wr nq));have am:=OY (zI af.out nq);have n:=OY (zI u.out nq);have ak:=au.below (lN wr nq);have aj:=av.below (lN wr nq);have aI:=((lN wr nq).cell (p:=⟨J,i*3+1,none⟩) ax).trans f1;have a7:=((lN wr nq).cell (p:=⟨g,k*3+2,none⟩) hg).trans M;have ai:=xo ax (lN wr nq).size;have a8:=xo hg (lN wr nq).size;clear m0 ad ax f0 f1 au hg Y M av c3 r aa af u;generalize wr.drewN nq=wq at *;obtain⟨m0,ad⟩:=a9.out _ n.out;obtain⟨c3,r⟩:=S.out _ n.out;obtain⟨b0,b1,ap⟩:=be.out _ am.out;have aK:Hid (∀W,Below wq.heap.size wq W->Calls prog 196 #[.agg #[D,E],F,s] W fun e j=>∃(I Y:Nat) (o1:Option Addr) (H M:Nat) (o2:Option Addr),e=.returned (.tuple #[.agg #[.slice o1 I Y,.slice o2 H M],.bool (xn B l.args rw).isSome])/\Hid (∀d,xn B l.args rw=some d->Pg 0 j (.slice o1 I Y) (xj d)/\Pg 0 j (.slice o2 H M) (xP d)/\d.length<=3*(k+1))/\Hid (Below wq.heap.size wq j)/\Hid (Below W.heap.size W j)/\j.cell? ⟨g,k*3+2,none⟩=some F/\j.cell? ⟨w.heap.size,0,none⟩=some D/\j.cell? ⟨w.heap.size,1,none⟩=some E/\j.cell? ⟨mb,0,none⟩=some (.slice (some ⟨J,0,none⟩) fs.length ay)/\j.cell? ⟨J,i*3+1,none⟩=some s/\j.cell? ⟨Z,go+3,none⟩=some (.slice (some ⟨g,0,none⟩) c.body.length L)):=fun W m=>by
     refine(a5.out W _ _ _ (Pc n.out m) (aj.below m) (ak.below m)).mono ?_;rintro e j ⟨I,m1,o1,H,m2,o2,G,X,q3⟩;have A:=Pc m q3.out;exact⟨I,m1,o1,H,m2,o2,G,X,A,q3,(zl A a8 a7),(zl A ap b0),(zl A ap b1),(zl A ad m0),(zl A ai aI),(zl A r c3)⟩
    clear aj ak a5;generalize xn B l.args rw=wo at *;go_upto_region 18 with fail
    go_cut [15,16] from 118 to 138 (fun aQ bb wx=>bb=.bool wo.isSome/\Qv wq wx (3*(k+1)) wo aQ)
    case first=>
     go_region_held3 (fun j=>j.cell? ⟨g,k*3+2,none⟩=some F/\j.cell? ⟨w.heap.size,0,none⟩=some D/\j.cell? ⟨w.heap.size,1,none⟩=some E/\j.cell? ⟨mb,0,none⟩=some (.slice (some ⟨J,0,none⟩) fs.length ay)/\j.cell? ⟨J,i*3+1,none⟩=some s/\j.cell? ⟨Z,go+3,none⟩=some (.slice (some ⟨g,0,none⟩) c.body.length L)) (first|go_keep|(go_simp;done)) (first|(go_at_call 196;refine(aK.out _ (by exact(by repeat'(first|with_reducible(first|apply zR|assumption|apply zN|apply zA|apply zD|apply zS)|go_size)))).mono ?_;rintro e w5 ⟨I,m1,o1,H,m2,o2,rfl,aM,aD,bg,z0,z1,z2,z3,z4,z5⟩;(try (with_reducible refine OZ.carry (OZ.drew (OZ.new wq #[.slice none 0 0,.slice none 0 0] 270)) bg.out ?_;intro a3;obtain⟨bm,bn,bo⟩:=a3.boxed))))
     all_goals
      go_wp2_with fail
      go_meet
      case rel=>first|exact⟨rfl,Qv.one aD.out aM.out⟩|exact⟨rfl,Qv.two (zh _) aD.out a3 aM.out⟩
    case rest=>
     obtain⟨rfl,xq,I,m1,o1,H,m2,o2,rfl,HQ,an,ab⟩:=hcut;have a1:=OY (aJ.out.below ab.out);have ah:=OY (Pc am.out ab.out);have aE:=OY (Pc n.out ab.out);clear m0 ad c3 r b0 b1 ap aK aI a7 ai a8 aJ am n ab;cases wo with
     |none=>
      have HT:Hid (sn=[]):=C.out;go_wp2;go_roundw
      case rel=>exact⟨i+1,by omega,by go_num,by rw[O.out,HT.out,qA];exact a1.out,ah⟩
      case measure=>simp[intOf];omega
     |some d=>
      have HT:Hid (sn=ye fs c.head c.body rest d):=C.out;simp only[qJ];obtain⟨s1,s2,s3⟩:=HQ.out d rfl;have K:=az.out wc aE.out;have R:=bi.out;rw[O.out,HT.out,yz] at R;have aG:=OY (a2.out wc (.slice o1 I m1) (.slice o2 H m2) d s3 (aY.out d rfl) (by omega) ⟨K.model,K.facts,K.cl,s1,s2,K.hz⟩);have q0:=an.out.rules.1 0;have G:=an.out.rules.1 1;have aX:=an.out.lt;have bf:=OY R;clear s1 s2 HQ K R;generalize ye fs c.head c.body rest d=fr at *;go_upto_region 21 with (first|(go_at_call 166;refine aG.out.mono ?_;rintro e w6 ⟨v6,rfl,aZ,aH⟩))
      have a6:=OY (a1.out.below aH.out);have N:=OY (Pc ah.out aH.out);clear q0 G aX aG;go_wp2_with (first|(at_builtin;refine Mb rfl (.tmp 146) (.tmp 147) rfl _ _ _ _ rfl rfl a6.out aZ.out bf.out N.out.size ?_;intro v8 w8 aU aV))
      go_roundw
      case rel=>
       obtain⟨_,_,aP,_⟩:=a6.out;exact⟨i+1,by omega,by go_num,by rw[O.out,HT.out];exact aU,N.out.trans (aV.below (fun b m=>yW aP (yv m)) N.out.size)⟩
      case measure=>simp[intOf];omega
   ·have aS:=qz he;have C:Hid ((fs.take (i+1)).flatMap (dP fs c.head c.body rest l B)=(fs.take i).flatMap (dP fs c.head c.body rest l B)):=by
     rw[Hid,O.out,dP,za he,qA]
    clear O he f1 au av M;generalize fs[i].1=x at *;generalize l.pred=y at *;go_wp2;go_quiet (fail)
    go_wp2;go_roundw
    case rel=>exact⟨i+1,by omega,by go_num,by rw[C.out];exact aa.out.below (lN _ _),zI af.out _⟩
    case measure=>simp[intOf];omega
  ·have bc:¬(i:Int)<(fs.length:Int):=by omega
   obtain rfl:i=fs.length:=by omega
   go_wp2;go_ret;obtain⟨bk,G,X,q3⟩:=aa.out;rw[uO] at G X q3;exact⟨_,rfl,by rw[Hid,aL.out];exact⟨bk,G,yr X ac.out.size,q3⟩,u⟩
theorem E0(n G j p:Nat)(F:Value)(c:zc)(fs:List z7)(A:c.body.length<=30)(g:∀l∈zm c,l.args.length<=3/\∀a∈l.args,0<a.size)(q:fs.length<=10000000)(I:∀f∈fs,f.2.1.length<=1000000)(K:∀f∈fs,∀l∈zm c,f.1=l.pred->f.2.1.length=l.args.length)(J:∀f∈fs,∀x∈f.2.1,x≠ByteArray.empty):∀(rest:List zj) (k:Nat) (w:World) (u t:Value) (B:y6),k<=c.body.length->c.body.drop k=rest->B.length<=3*k->vG B->(ye fs c.head c.body rest B).length<=1000000000000->fq z w n G j p F u t c fs B →
  Calls prog 166 #[.pointer (some ⟨n,0,none⟩),.pointer (some ⟨j,p,none⟩),.int .i64 k,.agg #[u,t]] w fun e H=>∃v,e=.returned v/\Hid (uY z w.heap.size H v (ye fs c.head c.body rest B))/\Hid (Below w.heap.size w H)
 |[],k,w,u,t,B,T,M,E,O,C,L=>by
  have N:k=c.body.length:=by
   have:=congrArg List.length M;simp at this;omega
  subst N;exact Jq w n G j p F u t c fs B L (by omega) (by omega) (fun l R=>⟨by have:=(g l R).1;omega,(g l R).2⟩) q I
 |l::rest,k,w,u,t,B,T,M,E,O,C,L=>by
  have d:k<c.body.length:=by
   have:=congrArg List.length M;simp at this;omega
  have s:=M;rw[xg d] at s;have y:c.body[k]=l:=(List.cons.inj s).1;have r:c.body.drop (k+1)=rest:=(List.cons.inj s).2;have i:l∈zm c:=by simp[zm,←y]
  have m:Hid (∀W b h (D:y6),D.length<=3*(k+1)->vG D->(ye fs c.head c.body rest D).length<=1000000000000->fq z W n G j p F b h c fs D->Calls prog 166 #[.pointer (some ⟨n,0,none⟩),.pointer (some ⟨j,p,none⟩),.int .i64 ((k:Int)+1),.agg #[b,h]] W fun e H=>∃v,e=.returned v/\Hid (uY z W.heap.size H v (ye fs c.head c.body rest D))/\Hid (Below W.heap.size W H)):=fun W b h D X V Y S=>E0 n G j p F c fs A g q I K J rest (k+1) W b h D d r X V Y S;cases P:l.neg with
  |true=>exact Oj w n G j p F u t c fs B l rest k L A d y E O P C m
  |false=>exact IT w n G j p F u t c fs B l rest k L A (g l i) q (fun f U e=>K f U l i e) J d y E O P C m
end
section
variable {z:Nat}{rvs:List Value}{lo:Nat}{w:World}
theorem OM:(prog.info? 56).map (fun i=>(i.zero,i.size,i.bytes))=some (some (.agg #[.string ByteArray.empty,.slice none 0 0,.int .i64 0]),3,48):=by kernel_rfl
def Qw(f:z7)(a:Value):List Value:=[.string f.1,a,.int .i64 (f.2.2:Nat)]
def qe(fs:List z7)(rvs:List Value):List Value:=(List.zipWith Qw fs rvs).flatten
theorem M6{fs b:List z7}{a:List Value}(h:rvs.length=fs.length):qe (fs++b) (rvs++a)=qe fs rvs++qe b a:=by
 unfold qe;rw[eL h.symm];simp
theorem LB{fs:List z7}(h:rvs.length=fs.length):(qe fs rvs).length=fs.length*3:=by
 induction fs generalizing rvs with
 |nil=>simp[qe]
 |cons f fs a=>
  cases rvs with
  |nil=>simp at h
  |cons r rvs=>
   have:=a (rvs:=rvs) (by simpa using h);unfold qe at this ⊢;simp only[ly,lV,yz,yZ];rw[this];simp[Qw];omega
theorem tZ:∀(fs:List z7) (a:List Value) (i c:Nat) (h:i<fs.length) (b:i<a.length),c<3->(qe fs a)[i*3+c]?=(Qw fs[i] a[i])[c]?
 |f::fs,g::a,0,c,_,_,d=>by
  have e:qe (f::fs) (g::a)=Qw f g++qe fs a:=by simp[qe]
  rw[e,tT (by simp[Qw];omega)];simp
 |f::fs,g::a,i+1,c,h,b,d=>by
  have e:qe (f::fs) (g::a)=Qw f g++qe fs a:=by simp[qe]
  have l:(Qw f g).length=3:=by simp[Qw]
  rw[e,g6 (by rw[l];omega),l,show(i+1)*3+c-3=i*3+c by omega];exact tZ fs a i c (by simpa using h) (by simpa using b) d
def yP(z lo:Nat)(w:World)(v:Value)(fs:List z7):Prop:=∃rvs:List Value,rvs.length=fs.length/\w.ownsRow lo 56 3 v fs.length (qe fs rvs)/\∀i (h:i<fs.length) (a:i<rvs.length),Qn z w rvs[i] fs[i].2.1
theorem yP.nil(lo:Nat)(w:World):yP z lo w (.slice none 0 0) []:=⟨[],rfl,yK _ _ _ _,fun i h=>by cases h⟩
theorem yP.below{lo:Nat}{w d:World}{v:Value}{fs:List z7}(h:yP z lo w v fs)(c:Below w.heap.size w d):yP z lo d v fs:=by
 obtain⟨rvs,f,e,g⟩:=h;exact⟨rvs,f,zE e c,fun i a b=>(g i a b).below c⟩
theorem yP.low{a:Nat}{v:Value}{fs:List z7}(h:yP z lo w v fs)(d:a<=lo):yP z a w v fs:=by
 obtain⟨rvs,c,b,e⟩:=h;exact⟨rvs,c,yr b d,e⟩
theorem yP.saveT{lo:Nat}{w e:World}{v:Value}{fs:List z7}{M:List Nat}{T:TypeId}(h:yP z lo w v fs)(d:zd M w e)(c:Px w T M)(g:56≠T)(f:9≠T):yP z lo e v fs:=by
 obtain⟨rvs,l,j,k⟩:=h;exact⟨rvs,l,yE j d c g,fun i a b=>(k i a b).saveT d c f⟩
theorem yP.facts{v:Value}{fs:List z7}(h:yP z lo w v fs):lZ w v fs:=by
 obtain⟨rvs,n,f,m⟩:=h;by_cases j:0<fs.length
 ·obtain⟨g,b,d,_,l,e⟩:=y7 f j;refine⟨_,b,d,fun i c=>?_⟩;have a:i<rvs.length:=by omega
  refine⟨g,rvs[i],0,rfl,l,e (i*3) _ ?_,e (i*3+1) _ ?_,e (i*3+2) _ ?_,(m i c a).1⟩
  ·rw[show i*3=i*3+0 from rfl,tZ _ _ _ _ c a (by omega)];rfl
  ·rw[tZ _ _ _ _ c a (by omega)];rfl
  ·rw[tZ _ _ _ _ c a (by omega)];rfl
 ·obtain⟨k,b,d⟩:=zq f;exact⟨k,b,d,fun i c=>zC c (by omega)⟩
section
variable {ops:Array Oper} {rest:List Oper} {o:Oper} {a:Act} {Q:Exit->Act->World->Prop}
theorem C1{H:Nat}(l:o.guard=none)(s x:Operand)
  (L:o.op=.call {callee:=.builtin .append,args:=#[s,x],argTypes:=#[52,52]})
  (n g:List z7) (r N:Value) (P:a.eval s=r) (M:a.eval x=N) (h1:yP z lo w r n) (h2:yP z H w N g) (hl:n.length+g.length<=1000000000000) (I:lo<=w.heap.size)
  (h:∀J B,yP z lo B J (n++g)->zd r.ownBlock.toList w B->wpList prog ops Q rest (a.put o.dst J) B):
  wpList prog ops Q (o::rest) a w:=by
 obtain⟨U,V,D,y,C⟩:=info_parts OM;obtain⟨rvs,t,m,S⟩:=h1;obtain⟨b,T,X,O⟩:=h2;have q:∀u∈qe g b,u.oneCell'=true:=by
  intro u i;obtain⟨f,hf,i⟩:=List.mem_flatten.1 i;obtain⟨j,d,rfl⟩:=kX.1 hf;rw[List.getElem_zipWith] at i;simp only[List.length_zipWith] at d;obtain⟨ao,aa,e⟩:=(O j (by omega) (by omega)).1.qw;unfold Qw at i;rw[e] at i;simp only[zw,lB,or_false] at i;rcases i with rfl|rfl|rfl<;>simp[Value.oneCell']
 obtain⟨_,⟨G,W⟩|⟨R,p,ae,G,ab,hh,Z,ad,ac,K⟩⟩:=id X
 ·have E:g=[]:=pT W;refine wpList_append_own_none l s x 52 L lo 56 U 3 underlying52 V _ _ _ P m (by rw[M,G]) ?_;refine h _ _ ?_ (zd.refl _ _);rw[E,qA];exact⟨rvs,t,m,S⟩
 ·have A:∀j u,(qe g b)[j]?=some u->w.cell? (Addr.add ⟨R,0,none⟩ j)=some u:=fun j u d=>by
   rw[Addr.add_lit,uL];unfold World.cell?;rw[hh];simp only;rw[←K,l9] at d;split at d
   ·simpa using d
   ·simp at d
  refine wpList_append_own _ l s x 52 L lo 56 U _ 3 48 underlying52 V D y C rfl (by decide) _ _ _ P m ⟨R,0,none⟩ g.length p (qe g b) (by rw[M,G]) (LB T) A q (by unfold maxLen;omega) (by omega) I ?_;intro J Y F c _;have v:zd r.ownBlock.toList w Y:=⟨c.os,c.tape,c.output,c.size,fun k hk hm=>c.block k hk fun e=>hm (by rw[←e];simp)⟩;refine h _ _ ⟨rvs++b,by simp[t,T],by rw[yz,M6 t];exact F,fun j q1 q2=>?_⟩ v;by_cases d:j<n.length
  ·simp only[uT d,uT (show j<rvs.length by omega)];exact(S j d (by omega)).saveT v (Px.own m) (by decide)
  ·simp only[yz] at q1 q2;simp only[lK (show n.length<=j by omega),lK (show rvs.length<=j by omega),t];exact(O _ (by omega) (by omega)).saveT v (Px.own m) (by decide)
theorem yP.one{b:Nat}{f:z7}{c:Value}(e:OZ w b (Qw f c).toArray 56)(g:Qn z w c f.2.1):yP z 0 w (.slice (some ⟨b,0,none⟩) 1 1) [f]:=by
 refine⟨[c],rfl,⟨by simp[qe,Qw],ze ⟨b,1,(Qw f c).toArray,rfl,zv _,e,zh _,by unfold maxLen;omega,by simp[Qw],by simp[qe,Qw]⟩⟩,fun i d h=>?_⟩;obtain rfl:i=0:=by simp at d;exact d
 exact g
end
theorem E5(w:World)(M l:Nat)(fv lv y:Value)(fs c:List z7)(b:ByteArray)(row:List ByteArray)(R:OZ w M #[fv,.int .i64 l] 54)(hf:lZ w fv fs)(O:yP z lo w lv c)(F:Qn z w y row)(ab:fs.length<=10000000)(am:c.length<1000000000000)(al:row.length<=1000000)(J:∀f∈fs,f.2.1.length<=1000000)(L:∀f∈c,f.2.1.length<=1000000)(X:lo<=w.heap.size):
  Calls prog 123 #[.pointer (some ⟨M,0,none⟩),lv,.string b,y] w fun e w'=>∃v,e=.returned v/\Hid (yP z lo w' v (ue fs c (b,row,l)))/\Hid (zd lv.ownBlock.toList w w'):=by
 obtain⟨I,t,rfl⟩:=F.1.qw;have K:=OY (e6 w M l fv fs b _ row R hf F.1 ab (by omega) J);have aa:Hid (∀W,Below w.heap.size w W->W.cell? ⟨M,1,none⟩=some (.int .i64 l)/\M<W.heap.size):=fun W m=>⟨by rw[(R.below m).rules.1];rfl,(R.below m).lt⟩;have Y:=OY fun W lo va (a:List ByteArray) (m:Below w.heap.size w W) (ha:Pg lo W va a) (hq:a.length<=1000000)=>Bm W va _ a row ha (F.1.below m) hq (by omega);have u:=OY fun W (m:Below w.heap.size w W)=>O.below m;have ae:=OY fun W (m:Below w.heap.size w W)=>F.below m;have ad:=OY L;obtain⟨ao,aq,rfl,_⟩:=O.facts;have HC:Hid (∀W i (h:i<c.length),Below w.heap.size w W->∃g y lo,ao=some ⟨g,0,none⟩/\g<W.heap.size/\W.cell? ⟨g,i*3,none⟩=some (.string c[i].1)/\W.cell? ⟨g,i*3+1,none⟩=some y/\Pg lo W y c[i].2.1):=fun W i h m=>by
  obtain⟨ak,aj,e,q⟩:=(O.below m).facts;cases e;obtain⟨g,y,lo,r1,r2,r3,r4,_,r6⟩:=q i h;exact⟨g,y,lo,r1,r2,r3,r4,r6⟩
 have s:Hid ((yC b row fs).isSome=true↔0<=jj b row fs):=by
  unfold Hid jj;cases yC b row fs with
  |none=>simp
  |some z=>simp
 have Z:Hid ((yC b row fs).isSome=true->ue fs c (b,row,l)=c):=fun q=>zb (zf q);have ah:Hid ((yC b row c).isSome=true->ue fs c (b,row,l)=c):=fun q=>zb (ze q);have ai:Hid (¬(yC b row fs).isSome=true->¬(yC b row c).isSome=true->ue fs c (b,row,l)=c++[(b,row,l)]):=fun q1 q2=>za (by rintro(z|z);exact q1 z;exact q2 z);clear R hf O F J L;generalize ue fs c (b,row,l)=ar at *;generalize (yC b row fs).isSome=fb at *;generalize jj b row fs=fi at *;by_cases H:0<=fi
 ·have G:=OY (Z.out (s.out.2 H));go_enter func123,ntmps123;go_wp2_with (first|(go_at_call 45;refine K.out.mono ?_;rintro e w1 ⟨rfl,n⟩))
  go_ret;exact⟨_,rfl,by rw[Hid,G.out];exact u.out _ n,zd.of n⟩
 ·have ac:Hid (¬fb=true):=fun q=>H (s.out.1 q);have H0:Hid (yC b row c=(yC b row (c.drop 0)).map (·+0)):=show yC b row c=_ by simp
  generalize yC b row c=p at *;go_enter func123,ntmps123;go_wp2_with (first|(go_at_call 45;refine K.out.mono ?_;rintro e w1 ⟨rfl,n⟩))
  go_loopw [10,11] (fun i _ wr=>∃k:Nat,k<=c.length/\i=.int .i64 k/\Hid (p=(yC b row (c.drop k)).map (·+k))/\Below w.heap.size w wr) (fun i _ _=>c.length-(intOf i).toNat)
  case atStart=>exact⟨0,zv _,rfl,H0,n⟩
  case round=>
   obtain⟨k,hk,rfl,HK,d⟩:=hrel;by_cases A:k<c.length
   ·have E:(k:Int)<(c.length:Int):=by omega
    obtain⟨g,an,ag,rfl,hg,c0,c1,hS⟩:=HC.out wr k A d;have q:=HK.out;rw[B8 A] at q;have D:=OY q;clear q HK;have P:=OY (Y.out wr ag _ _ d hS (ad.out _ (zu A)));clear hS;generalize c[k].2.1=S at *;generalize c[k].1=fp at *;by_cases B:fp=b
    ·have T:=ka B;by_cases j:S=row
     ·have C:Hid (p=some k):=show p=some k by rw[D.out,zb ⟨B,j⟩];simp
      have G:=OY (ah.out (by rw[C.out];rfl));rw[show decide (S=row)=true by simp[j]] at P;clear D B j;go_wp2_with (first|(go_at_call 84;refine P.out.mono ?_;rintro e w3 ⟨rfl,r⟩))
      go_ret;exact⟨_,rfl,by rw[Hid,G.out];exact u.out _ (Pc d r),zd.of (Pc d r)⟩
     ·have C:Hid (p=(yC b row (c.drop (k+1))).map (·+(k+1))):=show p=_ by
       rw[D.out,za (fun z=>j z.2),Option.map_map];congr 1;funext z;simp only[Function.comp];omega
      rw[show decide (S=row)=false by simp[j]] at P;clear D B j;go_wp2_with (first|(go_at_call 84;refine P.out.mono ?_;rintro e w3 ⟨rfl,r⟩))
      exact⟨⟨k+1,by omega,by go_num,C,Pc d r⟩,by simp[intOf];omega⟩
    ·have T:=qz B;have C:Hid (p=(yC b row (c.drop (k+1))).map (·+(k+1))):=show p=_ by
      rw[D.out,za (fun z=>B z.1),Option.map_map];congr 1;funext z;simp only[Function.comp];omega
     clear D B;go_wp2;exact⟨⟨k+1,by omega,by go_num,C,d⟩,by simp[intOf];omega⟩
   ·have E:¬(k:Int)<(c.length:Int):=by omega
    have C:Hid (p=none):=show p=none by
     rw[HK.out,ui (by omega)];rfl
    have G:=OY (ai.out ac.out (by rw[C.out];simp));obtain⟨c1,ap⟩:=aa.out _ d;have hu:Below wr.heap.size wr (wr.alloc (.cells #[.string b,.slice I row.length t,.int .i64 l] 56)):=(zo _ _).alloc (zh _) _;have x:=Pc d hu;have HX:=OY (yP.one (f:=(b,row,l)) (OZ.new wr (Qw (b,row,l) (.slice I row.length t)).toArray 56) (ae.out _ x));have af:=OY (u.out _ x);have N:=OY x;go_wp2_with (first|(at_builtin;refine C1 rfl (.tmp 41) (.tmp 49) rfl _ _ _ _ rfl rfl af.out HX.out (by simp;omega) (zT X N.out.size) ?_;intro v8 w8 U V))
    go_ret;exact⟨_,rfl,by rw[Hid,G.out];exact U,(zd.of N.out).trans V⟩
end
section
variable {z:Nat}{cs:List zc}{t:List zg}
theorem dT.clr{w:World}{g o:Nat}{c:zc}{e:Option Addr}{cap:Nat}{b:Option Addr}{a:Nat}(h:dT w g o c e cap b a)(f:(Value.slice e c.head.args.length cap).ownBlock≠some z):QM z w g o c:=by
 refine⟨h.lt,h.c1,⟨_,h.c2,h.args,f⟩,b,a,h.c3,fun j i=>?_⟩;obtain⟨r,l,d,q,n,p,s,m,k⟩:=h.body.cell j i;exact⟨r,q,n,p,s,_,m,k⟩
structure QU (z:Nat) (w:World) (pb:Nat) (ao:Option Addr) (cap:Nat) (aop:Option Addr) (capp:Nat) (aok:Option Addr) (capk:Nat) (cs:List zc) (t:List zg):Prop where
 box:OZ w pb #[.slice ao cs.length cap,.slice aop t.length capp,.slice aok t.length capk] 45
 cl:∀i (h:i<cs.length),∃g,ao=some ⟨g,0,none⟩/\QM z w g (i*4) cs[i]
 names:Pg 0 w (.slice aop t.length capp) (Pb t)
 strata:∀i (h:i<t.length),∃g,aok=some ⟨g,0,none⟩/\g<w.heap.size/\w.cell? ⟨g,i,none⟩=some (.int .i64 (t[i].qh:Nat))
theorem QU.below{w m:World}{pb:Nat}{l:Option Addr}{cap:Nat}{c:Option Addr}{b:Nat}{e:Option Addr}{a:Nat}{cs:List zc}{t:List zg}(h:QU z w pb l cap c b e a cs t)(d:Below w.heap.size w m):QU z m pb l cap c b e a cs t:=by
 refine⟨h.box.below d,fun i j=>?_,h.names.below d,fun i j=>?_⟩
 ·obtain⟨g,k,f⟩:=h.cl i j;exact⟨g,k,f.below d⟩
 ·obtain⟨g,k,f,n⟩:=h.strata i j;exact⟨g,k,xo f d.size,(zl d f n)⟩
theorem dZ.read{lo:Nat}{s w:World}{pb:Nat}(x:dZ lo s pb cs t)(m:Qm lo s w)(Z:z<lo∨s.heap.size<=z):∃l d f a c b,QU z w pb l d f a c b cs t:=by
 obtain⟨_,cv,pv,Y,h,E,n,A⟩:=x.same m;obtain⟨l,d,rfl⟩:=E.qw;obtain⟨f,a,rfl⟩:=n.qw;obtain⟨c,b,rfl⟩:=zq A;have e:(Pb t).length=t.length:=by simp[Pb]
 rw[e] at h n;refine⟨l,d,f,a,c,b,h,fun i j=>?_,yr n (zv _),fun i j=>?_⟩
 ·obtain⟨g,O,F,Q,I,u,G⟩:=E.at i j;refine⟨g,u,G.clr ?_⟩;obtain⟨P,T,V,S,U,H,_,_⟩:=x;have k:=U.same P m;rw[OZ] at h k;rw[h] at k;simp only[zs,Obj.cells.injEq,Array.mk.injEq,lF,and_true] at k;have W:=k.1.symm;subst W;obtain⟨g',y,p,v,q,C,L,_,_,N,_,B,_⟩:=H.cell i j;rw[u] at C;cases C;have r:lo<=g:=by
   obtain⟨xs,D,_⟩:=H;rw[u] at D;exact yW D rfl
  have o:w.cell? ⟨g,i*4+2,none⟩=s.cell? ⟨g,i*4+2,none⟩:=by simp[World.cell?,m g r L]
  rw[G.c2,N] at o;rw[zs] at o;rw[o];intro K;have a1:=yW B K;have X:=yO B K;omega
 ·obtain⟨g,J,R,_,r,M⟩:=y7 A (by omega);cases R;refine⟨g,rfl,r,M i _ ?_⟩;simp[j,PF]
theorem rL(a:xJ cs t){c:zc}(m:c∈cs):dO (Pb t) c.head.pred=(zF t c.head.pred:Nat)/\∃h:zF t c.head.pred<t.length,t[zF t c.head.pred].qh=xz t c.head.pred:=by
 obtain⟨b,p,g,o⟩:=a.lit c m c.head (by simp[zm]);have l:c.head.pred∈Pb t:=by
  rw[←g,(kW a.rise b).2];exact zB.2 ⟨_,zu _,rfl⟩
 obtain⟨k,n,f⟩:=rO l;obtain⟨i,j⟩:=fo f;have d:k<t.length:=by simpa [Pb] using i
 have e:zF t c.head.pred=k:=by
  have q:=kW a.rise d;have:gK t k=c.head.pred:=by
   rw[q.2,←j];simp[Pb]
  rw[←this];exact q.1
 refine⟨by unfold dO;rw[f,e],b,?_⟩;have q:=(iq a.rise b).1;rw[←(kW a.rise b).2,g] at q;unfold xz;rw[q]
theorem eX{s i:Nat}(a:i<cs.length):yk t (cs.take (i+1)) s=if xz t cs[i].head.pred=s/\0<cs[i].body.length then yk t (cs.take i) s++[cs[i]] else yk t (cs.take i) s:=by
 unfold yk;rw[yM a,rx];by_cases q:xz t cs[i].head.pred=s/\0<cs[i].body.length
 ·rw[zb q,List.filter_cons_of_pos (by simpa using q),List.filter_nil]
 ·rw[za q,List.filter_cons_of_neg (by simpa using q),List.filter_nil,qA]
theorem IP{s i:Nat}(c:i<cs.length)(q:xz t cs[i].head.pred=s/\0<cs[i].body.length):(yk t cs s).isEmpty=false:=by
 have:cs[i]∈yk t cs s:=xY.2 ⟨zu c,decide_eq_true q⟩;cases d:yk t cs s with
 |nil=>rw[d] at this;cases this
 |cons a b=>rfl
theorem IQ(w:World)(pb:Nat)(B:Option Addr)(cap:Nat)(K:Option Addr)(p:Nat)(m:Option Addr)(k:Nat)(cs:List zc)(t:List zg)(s:Nat)(h:QU z w pb B cap K p m k cs t)(x:xJ cs t)(hl:cs.length<=1000)(ht:t.length<=1000)(r:∀c∈cs,xz t c.head.pred<=1000)(hs:s<=1000):
  Calls prog 124 #[.pointer (some ⟨pb,0,none⟩),.int .i64 s] w fun e E=>e=.returned (.bool (!(yk t cs s).isEmpty))/\E=w:=by
 have I:Hid (∀c∈cs,Calls prog 111 #[.pointer (some ⟨pb,0,none⟩),.string c.head.pred] w fun e E=>e=.returned (.int .i64 (zF t c.head.pred:Nat))/\E=w):=fun c D=>by
  have:=mv w pb _ _ _ (Pb t) c.head.pred h.box h.names (by simp[Pb];omega);rw[(rL x D).1] at this;exact this
 have L:Hid (∀c∈cs,zF t c.head.pred<t.length/\∃g,m=some ⟨g,0,none⟩/\g<w.heap.size/\w.cell? ⟨g,zF t c.head.pred,none⟩=some (.int .i64 (xz t c.head.pred:Nat))):=fun c D=>by
  obtain⟨l,f⟩:=(rL x D).2;obtain⟨g,r1,V,r3⟩:=h.strata _ l;exact⟨l,g,r1,V,by rw[r3,f]⟩
 have N:Hid (∀i (j:i<cs.length),∃g,B=some ⟨g,0,none⟩/\g<w.heap.size/\w.cell? ⟨g,i*4+1,none⟩=some (.string cs[i].head.pred)/\∃u v,w.cell? ⟨g,i*4+3,none⟩=some (.slice u cs[i].body.length v)):=fun i j=>by
  obtain⟨g,l,f⟩:=h.cl i j;obtain⟨u,v,Z,_⟩:=f.body;exact⟨g,l,f.lt,f.pred,u,v,Z⟩
 have o:=OY r;have b0:w.cell? ⟨pb,0,none⟩=some (.slice B cs.length cap):=by rw[h.box.rules.1];rfl
 have b2:w.cell? ⟨pb,2,none⟩=some (.slice m t.length k):=by rw[h.box.rules.1];rfl
 have U:=h.box.lt;have W:Hid (yk t cs s=yk t (cs.take cs.length) s):=by rw[Hid,uO]
 have G:Hid (∀i (j:i<cs.length),xz t cs[i].head.pred=s->0<cs[i].body.length->(yk t cs s).isEmpty=false):=fun i j l f=>IP j ⟨l,f⟩;have M:Hid (∀i (j:i<cs.length),¬(xz t cs[i].head.pred=s/\0<cs[i].body.length)->yk t (cs.take i) s=[]->yk t (cs.take (i+1)) s=[]):=fun i j l f=>by rw[eX j,za l,f]
 clear h x r;generalize yk t cs s=ab at *;go_enter func124,ntmps124;go_wp2;go_loopw [5,6] (fun y _ wr=>∃i:Nat,i<=cs.length/\y=.int .i64 i/\Hid (yk t (cs.take i) s=[])/\wr=w) (fun y _ _=>cs.length-(intOf y).toNat)
 case atStart=>exact⟨0,zv _,rfl,rfl,rfl⟩
 case round=>
  obtain⟨i,j,rfl,J,H⟩:=hrel;obtain rfl:=H.symm;by_cases d:i<cs.length
  ·have A:(i:Int)<(cs.length:Int):=by omega
   obtain⟨g,rfl,hg,c1,u,v,c3⟩:=N.out i d;have a:=zu d;obtain⟨T,gk,rfl,ad,ck⟩:=L.out _ a;have F:=OY (I.out _ a);have X:=o.out _ a;have ac:((zF t cs[i].head.pred:Nat):Int)<(t.length:Int):=by omega
   have Y:=OY (G.out i d);have P:=OY (M.out i d);clear a;generalize cs[i].body.length=bl at *;generalize xz t cs[i].head.pred=O at *;generalize zF t cs[i].head.pred=fk at *;generalize cs[i].head.pred=pr at *;by_cases R:O=s
   ·subst R;by_cases Q:0<bl
    ·have C:(0:Int)<(bl:Int):=by omega
     have n:=OY (Y.out rfl Q);go_wp2_with (first|(go_at_call 111;refine F.out.mono ?_;rintro e S ⟨rfl,b⟩;obtain rfl:=b.symm))
     go_ret;exact⟨by rw[n.out];rfl,rfl⟩
    ·have C:¬(0:Int)<(bl:Int):=by omega
     have n:=OY (P.out (fun q=>Q q.2) J.out);go_wp2_with (first|(go_at_call 111;refine F.out.mono ?_;rintro e S ⟨rfl,b⟩;obtain rfl:=b.symm))
     go_roundw
     case rel=>exact⟨i+1,by omega,by go_num,n,trivial⟩
     case measure=>simp[intOf];omega
   ·have aa:¬((O:Int)=(s:Int)):=by omega
    have n:=OY (P.out (fun q=>R q.1) J.out);go_wp2_with (first|(go_at_call 111;refine F.out.mono ?_;rintro e S ⟨rfl,b⟩;obtain rfl:=b.symm))
    go_roundw
    case rel=>exact⟨i+1,by omega,by go_num,n,trivial⟩
    case measure=>simp[intOf];omega
  ·have A:¬(i:Int)<(cs.length:Int):=by omega
   obtain rfl:i=cs.length:=by omega
   have n:=OY (W.out.trans J.out);go_wp2;go_ret;exact⟨by rw[n.out];rfl,rfl⟩
end
end Go.Proofs.YteampbddflhngaaGreat
