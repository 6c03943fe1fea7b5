import Derived.Deep.RegionLaw
import Derived.Deep.OwnRows
import Derived.Test.YteampbddflhngaaGreatV05
namespace Go.Proofs.YteampbddflhngaaGreat
set_option maxRecDepth 100000
set_option maxHeartbeats 1000000
section
open Go.Proofs.Tryz Go.RowKit
variable {w w':World}{base n b g cap m tb:Nat}{v:Value}{xs:List Value}{c:Array Value}
theorem OZ.newAt(w:World)(b:Nat)(c:Array Value)(T:TypeId)(h:b=w.heap.size):OZ (w.alloc (.cells c T)) b c T:=by subst h;exact OZ.new w c T
theorem OZ.drew{w:World}{b:Nat}{c:Array Value}{T:TypeId}(h:OZ w b c T):OZ w.drew b c T:=h
theorem EC{e:TypeId}{a:Nat}(h:w.ownsRow base e a v n xs)(o:w.heap.size<=b):some b≠v.ownBlock:=by
 intro i;obtain⟨_,⟨d,_⟩|⟨p,k,l,j,_,f,_⟩⟩:=h
 ·subst d;cases i
 ·subst j;simp only[Value.ownBlock,zs] at i;subst i;have:=(kD.1 f).1;omega
theorem fg{e T:TypeId}{d:Nat}(h:w.ownsRow base e d v n xs)(l:OZ w b c T)(p:e≠T):some b≠v.ownBlock:=by
 intro i;obtain⟨_,⟨f,_⟩|⟨q,k,o,j,_,a,_⟩⟩:=h
 ·subst f;cases i
 ·subst j;simp only[Value.ownBlock,zs] at i;subst i;unfold OZ at l;rw[l] at a;simp at a;exact p a.2.symm
theorem OZ.keep{e f:World}{T:TypeId}(h:OZ e b c T)(d:some b≠v.ownBlock)(i:∀k,k<e.heap.size->some k≠v.ownBlock->f.heap[k]?=e.heap[k]?):OZ f b c T:=by
 have a:=h.lt;unfold OZ at *;rw[i b a d];exact h
theorem Lq{e T:TypeId}{a:Nat}(h:w.ownsRow base e a (.slice (some ⟨g,0,none⟩) n cap) m xs)(k:OZ w b c T)(o:c.size<m*a):b≠g:=by
 intro q;subst q;obtain⟨_,⟨i,_⟩|⟨t,j,l,f,_,d,p,s,r,_⟩⟩:=h
 ·cases i
 ·simp at f;obtain⟨rfl,rfl,rfl⟩:=f;unfold OZ at k;rw[k] at d;simp at d;rw[←d.1] at r;have:=pM a p;omega
section
variable {P:Program} {ops:Array Oper} {o:Oper} {a:Act} {K:Act->World->Prop} {Q:Exit->Act->World->Prop}
theorem oe{E:Prop}(D C:World)(l:List Value)(te:TypeId)(R:o.guard=none)(s x:Operand)(t:TypeId)
  (U:o.op=.call {callee:=.builtin .append,args:=#[s,x],argTypes:=#[t,t]})
  (base:Nat) (e:TypeId) (i:TypeInfo) (z:Value) (d f:Nat) (V:P.underlying t=some (.slice e)) (hi:P.info? e=some i) (W:i.zero=some z)
  (B:i.size=d) (L:i.bytes=f) (I:z.cells.size=d) (O:0<d)
  (v:Value) (n:Nat) (xs:List Value) (Y:a.eval s=v) (y:D.ownsRow base e d v n xs) (q:Below D.heap.size D C)
  (b c:Nat) (T:a.eval x=.slice (some ⟨b,0,none⟩) 1 c) (hb:OZ C b l.toArray te) (hl:l.length=d) (h1:∀u∈l,u.oneCell'=true)
  (hn:n<=1048576) (r:f<=1000) (J:base<=D.heap.size)
  (h:∀G w',w'.ownsRow base e d G (n+1) (xs++l)->Below base D w'->(∀k,k<C.heap.size->some k≠v.ownBlock->w'.heap[k]?=C.heap[k]?)->C.heap.size<=w'.heap.size->K (a.put o.dst G) w'):
  if Region.wanted o (yielded ops a.tmps)=true then Oper.wp P o a C K Q else E:=by
 have hw:Region.wanted o (yielded ops a.tmps)=true:=by simp[Region.wanted,R]
 rw[zb hw];have A:=zE y q;have H:∀k,v.ownBlock=some k->base<=k/\k<D.heap.size:=by
  intro k F;obtain⟨_,N⟩:=y;rcases N with⟨M,_⟩|⟨g,cap,aa,M,R,X,_⟩
  ·subst M;cases F
  ·subst M;simp only[Value.ownBlock,zs] at F;subst F;exact⟨R,(kD.1 X).1⟩
 have S:=q.size;refine wp_append_own _ s x t U base e i z d f V hi W B L I O v n xs Y A ⟨b,0,none⟩ 1 c l T (by omega) ?_ h1 ?_ ?_ ?_ ?_
 ·intro j u Z;rw[Addr.add_lit,uL,hb.rules.1];simpa using Z
 ·unfold maxLen;omega
 ·have:(n+1)*f<=1048577*1000:=Nat.mul_le_mul (by omega) r;omega
 ·omega
 ·intro G w' N p _;refine h G w' N ⟨p.os.trans q.os,p.tape.trans q.tape,p.output.trans q.output,by have:=p.size;omega,fun k F=>?_⟩ p.block p.size;rw[p.block k (by omega) (fun e=>by have:=H k e.symm;omega)];exact q.block k (by omega)
end
def uW(t:List zg)(x:zg)(k:Nat):List zg:=t.take k++x::t.drop k
theorem dU(t:List zg)(x:zg)(k:Nat):(uW t x k).length=t.length+1:=by simp[uW];omega
theorem Hr(t:List zg)(x:zg):uW t x t.length=t++[x]:=by simp[uW]
theorem EU(t:List zg)(x:zg)(j:Nat)(d:j<t.length):∃h:j<(uW t x (j+1)).length,(uW t x (j+1))[j]=t[j]:=by
 refine⟨by rw[dU];omega,?_⟩;unfold uW;rw[uT (by simp;omega)];simp
theorem F8(t:List zg)(x:zg)(j:Nat)(d:j<=t.length):∃h:j<(uW t x j).length,(uW t x j)[j]=x:=by
 refine⟨by rw[dU];omega,?_⟩;unfold uW;rw[lK (by simp;omega)];simp[d]
theorem If(t:List zg)(x:zg)(j:Nat)(e:j<t.length):((uW t x (j+1)).set (j+1) t[j]).set j x=uW t x j:=by
 unfold uW;have h:=yM e;have f:=xg e;have d:(t.take j).length=j:=by simp;omega
 rw[h,f,ki,fA _ _ (by omega),d,fA _ _ (by omega),d];simp
theorem BG:∀(t:List zg) (k:Nat) (e:zg),k<t.length->(((xZ t).set (k*3) (.string e.name)).set (k*3+1) (.int .i64 (e.jf:Int))).set (k*3+2) (.int .i64 (e.qh:Int))=xZ (t.set k e)
 |[],k,_,d=>by simp at d
 |a::r,0,e,_=>by simp[xZ]
 |a::r,k+1,e,d=>by
  have:=BG r k e (by simpa using d);simp only[xZ,us,p8] at this ⊢;rw[show(k+1)*3=k*3+1+1+1 from by omega,show k*3+1+1+1+2=k*3+2+1+1+1 from by omega];simpa using this
theorem e7{B:Nat}{t:List zg}(h:w.ownsRow B 221 3 (.slice (some ⟨g,0,none⟩) n cap) m (xZ t))(k:Nat)(d:k<t.length)(e:zg):
  (((w.setCell ⟨g,k*3,none⟩ (.string e.name)).setCell ⟨g,k*3+1,none⟩ (.int .i64 (e.jf:Int))).setCell ⟨g,k*3+2,none⟩ (.int .i64 (e.qh:Int))).ownsRow B 221 3 (.slice (some ⟨g,0,none⟩) n cap) m (xZ (t.set k e)):=by
 have f:=eR t;rw[←BG t k e d];exact uK (uK (uK h _ (by omega) _) _ (by simp;omega) _) _ (by simp;omega) _
structure vR (tb:Nat) (w w':World):Prop where
 size:w.heap.size<=w'.heap.size
 box:∀b c T,b≠tb->T≠221->OZ w b c T->OZ w' b c T
theorem vR.trans{a b c:World}(h:vR tb a b)(k:vR tb b c):vR tb a c:=⟨zT h.size k.size,fun x y z e d f=>k.box x y z e d (h.box x y z e d f)⟩
theorem vR.of(h:Below w.heap.size w w'):vR tb w w':=⟨h.size,fun _ _ _ _ _ k=>k.below h⟩
theorem vR.drew{tb:Nat}{w w':World}(h:vR tb w w'):vR tb w w'.drew:=⟨h.size,fun b c T e d f=>(h.box b c T e d f).drew⟩
theorem vR.setRow(h:vR tb w w'){B:Nat}(f:w'.ownsRow B 221 3 (.slice (some ⟨g,0,none⟩) n cap) m xs)(o:Nat)(u:Value):vR tb w (w'.setCell ⟨g,o,none⟩ u):=by
 refine⟨by simp[World.setCell];exact h.size,fun b c T i d j=>?_⟩;have e:=h.box b c T i d j;have:=fg f e (Ne.symm d);simp only[Value.ownBlock,ne_eq,zs] at this;exact e.set_ne this _ _
theorem Ed(h:vR tb w w'){B:Nat}{t:List zg}(d:w'.ownsRow B 221 3 (.slice (some ⟨g,0,none⟩) n cap) m (xZ t))(k:Nat)(f:k<t.length)(u1 u2 u3:Value):
  vR tb w (((w'.setCell ⟨g,k*3,none⟩ u1).setCell ⟨g,k*3+1,none⟩ u2).setCell ⟨g,k*3+2,none⟩ u3):=by
 have e:=eR t;exact((h.setRow d _ _).setRow (uK d _ (by omega) _) _ _).setRow (uK (uK d _ (by omega) _) _ (by simp;omega) _) _ _
theorem OB:(prog.info? 221).map (fun i=>(i.zero,i.size,i.bytes))=some (some (.agg #[.string ByteArray.empty,.int .i64 0,.int .i64 0]),3,32):=by kernel_rfl
theorem Bd(B:Nat)(w:World)(tb:Nat)(t:List zg)(i:Nat)(x:zg)(h:TA B w tb t)(hl:t.length<=1000)(hi:i<=t.length)(hB:B<=w.heap.size)(U:B<=tb):
  Calls prog 147 #[.pointer (some ⟨tb,0,none⟩),.int .i64 i,.agg #[.string x.name,.int .i64 x.jf,.int .i64 x.qh]] w fun e w'=>e=.returned (.tuple #[])/\TA B w' tb (t.take i++x::t.drop i)/\Below B w w'/\vR tb w w':=by
 obtain⟨i0,aa,X,R,V⟩:=info_parts OB;obtain⟨ao,cap,C,p⟩:=h.view;obtain⟨hc,hf,ah⟩:=C.boxed;have u:Below w.heap.size w (((w.alloc (.cells #[.string x.name,.int .i64 (x.jf:Int),.int .i64 (x.qh:Int)] 221)).alloc (.cells #[.string x.name,.int .i64 (x.jf:Int),.int .i64 (x.qh:Int)] 221)).drew):=(by go_grown);go_enter func147,ntmps147;go_wp2;go_region_law (first|(refine oe w _ [.string x.name,.int .i64 (x.jf:Int),.int .i64 (x.qh:Int)] 221 rfl (.tmp 11) (.tmp 13) 125 rfl B 221 i0 _ 3 32 underlying125 aa X R V rfl (by decide) _ _ _ (by simp[Act.eval]) p (by exact(by go_grown)) (w.heap.size+1) 1 (by simp[Act.eval]) (by exact OZ.drew (OZ.newAt _ _ _ _ (by simp))) rfl (by simp[Value.oneCell']) (by omega) (by omega) hB ?_;intro v' w2 F G D ag;obtain⟨A,q,rfl⟩:=zq F;have r:=(C.below u).keep (fg p C (by decide)) D;obtain⟨ap,am⟩:=r.rules;have J:=OZ.keep (OZ.drew ((OZ.new w _ _).below zO)) (EC p (zh _)) D))
 all_goals
  go_wp2;go_loopw [6] (fun k wr=>∃j:Nat,i<=j/\j<=t.length/\k=.int .i64 j/\OZ wr tb #[.slice A (t.length+1) q] 127/\wr.ownsRow B 221 3 (.slice A (t.length+1) q) (t.length+1) (xZ (uW t x j))/\OZ wr w.heap.size #[.string x.name,.int .i64 (x.jf:Int),.int .i64 (x.qh:Int)] 221/\Below B w wr/\vR tb w wr) (fun k _=>(intOf k).toNat)
  case atStart=>
   refine⟨t.length,hi,zh _,rfl,r.set 0 _,?_,J.set_ne (by omega) _ _,?_,?_⟩
   ·rw[Hr];have:=xQ F ((Pm.refl tb w2).setCell 0 (.slice A (t.length+1) q)) r (by decide);simpa [xZ] using this
   ·exact G.setCell U _
   ·exact⟨by simp[World.setCell];exact G.size,fun b c T h1 h2 h3=>((h3.below u).keep (fg p h3 (Ne.symm h2)) D).set_ne h1 _ _⟩
  case round=>
   obtain⟨j,ak,ai,rfl,s,l,z,L,y⟩:=hrel;obtain⟨ar,al⟩:=s.rules;obtain⟨au,an⟩:=z.rules;by_cases af:i<j
   ·obtain⟨j,rfl⟩:∃j',j=j'+1:=⟨j-1,by omega⟩;obtain⟨Y,H⟩:=EU t x j (by omega);obtain⟨g,rfl,hg,aq,N,ae,ab⟩:=kq (t:=uW t x (j+1)) (by rw[dU];exact l) j Y;rw[H] at N ae ab;have aj:=qt l;have d:=fg l s (by decide);have f:=Lq l z (by simp;omega);simp only[Value.ownBlock,ne_eq,zs] at d;obtain⟨S,M⟩:=F8 t x (j+1) (by omega);obtain⟨g',E,_,_,W,ac,O⟩:=kq (t:=uW t x (j+1)) (by rw[dU];exact l) (j+1) S;simp at E;subst E;rw[M] at W ac O;clear H M;go_wp2;go_region
    go_wp2;go_region
    go_wp2;have I:=e7 (e7 l (j+1) (by rw[dU];omega) t[j]) j (by rw[la,dU];omega) x;have ad:=Ed (Ed y l (j+1) (by rw[dU];omega) (.string t[j].name) (.int .i64 (t[j].jf:Int)) (.int .i64 (t[j].qh:Int))) (e7 l (j+1) (by rw[dU];omega) t[j]) j (by rw[la,dU];omega) (.string x.name) (.int .i64 (x.jf:Int)) (.int .i64 (x.qh:Int));rw[If t x j (by omega)] at I;go_roundw
    case rel=>exact⟨j,by omega,by omega,rfl,(((((((s.set_ne d _ _).set_ne d _ _).set_ne d _ _).set_ne d _ _).set_ne d _ _).set_ne d _ _).drew).drew,I.drew.drew,(((((((z.set_ne f _ _).set_ne f _ _).set_ne f _ _).set_ne f _ _).set_ne f _ _).set_ne f _ _).drew).drew,(by go_grown),ad.drew.drew⟩
    case measure=>simp[intOf]
   ·have Z:j=i:=by omega
    subst Z;go_wp2;go_end0
    exact⟨rfl,⟨_,s,by rw[show(t.take j++x::t.drop j).length=t.length+1 from dU t x j];exact l⟩,L,y⟩
end
section
open Go.Proofs.Tryz Go.RowKit
theorem FB(a b:Nat):((a:Int) == (b:Int))=decide (a=b):=by
 by_cases h:a=b
 ·subst h;simp
 ·rw[decide_eq_false h,beq_eq_false_iff_ne];omega
theorem JQ{a b:Bool}(h:a=b):Ending.returned (.bool a)=.returned (.bool b):=by rw[h]
def vg(t:List zg)(l:zj):Option (List zg):=match zY t l.pred with
 |some e=>if e.jf=l.args.length then some t else none
 |none=>some (uW t ⟨l.pred,l.args.length,0⟩ (zP t l.pred))
theorem Dn(B:Nat)(w:World)(tb:Nat)(t:List zg)(l:zj)(d:Option Addr)(a:Nat)(h:TA B w tb t)(u:t.length<=1000)(o:zg)(p:zY t l.pred=some o):
  Calls prog 102 #[.pointer (some ⟨tb,0,none⟩),.agg #[.bool l.neg,.string l.pred,.slice d l.args.length a]] w fun e n=>e=.returned (.bool (decide (o.jf=l.args.length)))/\Below w.heap.size w n:=by
 obtain⟨x,s,b,f⟩:=h.view;have q:=b.lt;have j:=(zo w.heap.size w).alloc (zh _) (.cells #[.bool l.neg,.string l.pred,.slice d l.args.length a] 90);have c:=OY (tC B _ tb t l.pred (h.below j) u);obtain⟨y,z⟩:=b.rules;obtain⟨v,m,r⟩:=qI p;obtain⟨g,rfl,A,_,i,k,_⟩:=kq f _ v;rw[m] at i k;go_enter func102,ntmps102;go_wp2_with (first|(go_at_call 126;refine c.out.mono ?_;rintro e n ⟨rfl,rfl⟩;clear c))
 go_quiet (fail)
 go_wp2;go_quiet (fail)
 go_wp2;go_ret;exact⟨JQ (FB _ _),(by repeat'(first|with_reducible(first|apply zR|assumption|apply zN|apply zA|apply zD|apply zS)|go_size))⟩
theorem Ok(B:Nat)(w:World)(tb:Nat)(t:List zg)(l:zj)(p:Option Addr)(d:Nat)(h:TA B w tb t)(x:t.length<=1000)(y:zY t l.pred=none)(s:B<=w.heap.size)(m:B<=tb):
  Calls prog 102 #[.pointer (some ⟨tb,0,none⟩),.agg #[.bool l.neg,.string l.pred,.slice p l.args.length d]] w fun e j=>e=.returned (.bool true)/\TA B j tb (uW t ⟨l.pred,l.args.length,0⟩ (zP t l.pred))/\Below B w j/\vR tb w j:=by
 obtain⟨H,F,n,q⟩:=h.view;have D:=n.lt;have o:=eh t l.pred;have a:=(zo w.heap.size w).alloc (zh _) (.cells #[.bool l.neg,.string l.pred,.slice p l.args.length d] 90);have c:=OY (tC B _ tb t l.pred (h.below a) x);obtain⟨I,K⟩:=n.rules;have v:=h;have r:=OY v;have A:Hid (uW t ⟨l.pred,l.args.length,0⟩ (zP t l.pred)=t.take (zP t l.pred)++⟨l.pred,l.args.length,0⟩::t.drop (zP t l.pred)):=rfl;rcases rQ y with z|⟨z,u⟩
 ·clear y;generalize zP t l.pred=k at *;go_enter func102,ntmps102;go_wp2_with (first|(go_at_call 126;refine c.out.mono ?_;rintro e j ⟨rfl,rfl⟩;clear c))
  go_quiet (fail)
  go_wp2_with (first|(go_at_call 147;refine(Bd B _ tb t k ⟨l.pred,l.args.length,0⟩ (by exact r.out.below (by repeat'(first|with_reducible(first|apply zR|assumption|apply zN|apply zA|apply zD|apply zS)|go_size))) x o (by exact zT s (by simp)) m).mono ?_;rintro e E ⟨rfl,i,f,b⟩))
  go_ret;exact⟨rfl,i,((zI (a.mono s) _)).trans f,(vR.of (zI a _)).trans b⟩
 ·obtain⟨g,rfl,L,_,C,G,_⟩:=kq q _ z;have J:=qz u;generalize zP t l.pred=k at *;go_enter func102,ntmps102;go_wp2_with (first|(go_at_call 126;refine c.out.mono ?_;rintro e j ⟨rfl,rfl⟩;clear c))
  go_quiet (fail)
  go_wp2_with (first|(go_at_call 147;refine(Bd B _ tb t k ⟨l.pred,l.args.length,0⟩ (by exact r.out.below (by repeat'(first|with_reducible(first|apply zR|assumption|apply zN|apply zA|apply zD|apply zS)|go_size))) x o (by exact zT s (by simp)) m).mono ?_;rintro e E ⟨rfl,i,f,b⟩))
  go_ret;exact⟨rfl,i,((zI (a.mono s) _)).trans f,(vR.of (zI a _)).trans b⟩
end
section
open Go.Proofs.Tryz Go.RowKit
variable {lo:Nat}{t:List zg}{o:Option (List zg)}
theorem iN{a:List zg}{l:zj}(h:vg t l=some a):a.length<=t.length+1:=by
 unfold vg at h;split at h
 ·split at h<;>simp at h;subst h;omega
 ·simp at h;subst h;rw[dU];omega
theorem Lz{c:List zg}{l:zj}(h:vg t l=some c)(b:∀e∈t,e.qh<=0):∀e∈c,e.qh<=0:=by
 unfold vg at h;split at h
 ·split at h<;>simp at h;subst h;exact b
 ·simp at h;subst h;intro e a;unfold uW at a;rcases zW.1 a with a|a
  ·exact b e (fD a)
  ·rcases zw.1 a with a|a
   ·subst a;exact zh _
   ·exact b e (g4 a)
def uk(o:Option (List zg))(l:zj):Option (List zg):=o.bind (vg · l)
def zm(c:zc):List zj:=c.head::c.body
def uh(cs:List zc):Option (List zg):=(cs.flatMap zm).foldl uk (some [])
theorem nO(b:List zj):b.foldl uk none=none:=by
 induction b with
 |nil=>rfl
 |cons a b c=>exact c
theorem s6:∀(c:List zj) (t:List zg),(∀e∈t,e.qh<=0)->∀a,c.foldl uk (some t)=some a->∀e∈a,e.qh<=0
 |[],t,b,a,h=>by simp at h;subst h;exact b
 |l::c,t,b,a,h=>by
  simp only[uv] at h;cases d:vg t l with
  |none=>rw[show uk (some t) l=none from d,nO] at h;cases h
  |some f=>rw[show uk (some t) l=some f from d] at h;exact s6 c f (Lz d b) a h
theorem rA:∀(b:List zj) (t:List zg),∀a,b.foldl uk (some t)=some a->a.length<=t.length+b.length
 |[],t,a,h=>by simp at h;subst h;simp
 |l::b,t,a,h=>by
  simp only[uv] at h;cases c:vg t l with
  |none=>rw[show uk (some t) l=none from c,nO] at h;cases h
  |some d=>rw[show uk (some t) l=some d from c] at h;have:=rA b d a h;have:=iN c;simp;omega
theorem Aa(B:Nat)(w:World)(tb:Nat)(t:List zg)(l:zj)(b:Option Addr)(a:Nat)(h:TA B w tb t)(g:t.length<=1000)(c:vg t l=none):
  Calls prog 102 #[.pointer (some ⟨tb,0,none⟩),.agg #[.bool l.neg,.string l.pred,.slice b l.args.length a]] w fun e j=>e=.returned (.bool false)/\Below w.heap.size w j:=by
 unfold vg at c;split at c
 ·rename_i i f;split at c
  ·cases c
  ·rename_i d;have:=Dn B w tb t l b a h g i f;rw[decide_eq_false d] at this;exact this
 ·cases c
theorem B0(B:Nat)(w:World)(tb:Nat)(t n:List zg)(l:zj)(c:Option Addr)(a:Nat)(h:TA B w tb t)(m:t.length<=1000)(b:vg t l=some n)(k:B<=w.heap.size)(f:B<=tb):
  Calls prog 102 #[.pointer (some ⟨tb,0,none⟩),.agg #[.bool l.neg,.string l.pred,.slice c l.args.length a]] w fun e d=>e=.returned (.bool true)/\TA B d tb n/\Below B w d/\vR tb w d:=by
 unfold vg at b;split at b
 ·rename_i p g;split at b
  ·rename_i j;simp at b;subst b;have:=Dn B w tb t l c a h m p g;rw[decide_eq_true j] at this;refine this.mono ?_;rintro e d ⟨rfl,i⟩;exact⟨rfl,h.below i,i.mono k,vR.of i⟩
  ·cases b
 ·rename_i g;simp at b;subst b;exact Ok B w tb t l c a h m g k f
def iT(o:Option (List zg))(w:World)(e:Ending)(b:World):Prop:=
 Below w.heap.size w b/\match o with
  |none=>e=.returned (.tuple #[.agg #[.slice none 0 0],.bool false])
  |some t=>∃a,e=.returned (.tuple #[.agg #[a],.bool true])/\b.ownsRow w.heap.size 221 3 a t.length (xZ t)
theorem Cx{w a:World}(h:Hid (o=none))(c:Below w.heap.size w a):iT o w (.returned (.tuple #[.agg #[.slice none 0 0],.bool false])) a:=by
 have b:o=none:=h;subst b;exact⟨c,rfl⟩
theorem FQ{w b:World}{a:Value}(h:Hid (o=some t))(e:Below w.heap.size w b)(c:b.ownsRow w.heap.size 221 3 a t.length (xZ t)):iT o w (.returned (.tuple #[.agg #[a],.bool true])) b:=by
 have d:o=some t:=h;subst d;exact⟨e,a,rfl,c⟩
theorem oZ(w:World)(v:Value)(cs:List zc)(J:PE lo 171 w v cs)(hN:(cs.flatMap zm).length<=1000):
  Calls prog 62 #[v] w fun e w'=>iT (uh cs) w e w':=by
 obtain⟨ao,aD,rfl⟩:=J.qw;have a7:cs.length<=1000:=by
  have:cs.length<=(cs.flatMap zm).length:=by
   clear hN J;induction cs with
   |nil=>simp
   |cons c cs ih=>simp[zm] at ih ⊢;omega
  omega
 go_enter func62,ntmps62;go_wp2;go_loopw [11] (fun i wr=>∃(k:Nat) (tk:List zg),k<=cs.length/\i=.int .i64 k/\Below w.heap.size w wr/\TA w.heap.size wr (w.heap.size+1) tk/\OZ wr w.heap.size #[.slice none 0 0] 127/\tk.length+((cs.drop k).flatMap zm).length<=1000/\Hid (uh cs=((cs.drop k).flatMap zm).foldl uk (some tk))) (fun i _=>cs.length-(intOf i).toNat)
 case atStart=>
  have x:=(zo w.heap.size w).alloc (zh _) (.cells #[.slice none 0 0] 127);exact⟨0,[],zv _,rfl,(by go_grown),⟨_,OZ.newAt _ _ _ _ (by simp),yK _ _ _ _⟩,(OZ.new w _ _).below zO,(by simpa using hN),rfl⟩
 case round=>
  obtain⟨k,tk,hk,rfl,m,r,f,M,H⟩:=hrel;have y:=m.size;have aq:=f.lt;have aF:w.heap.size+1<wr.heap.size:=by obtain⟨_,hb,_⟩:=r;exact hb.lt
  by_cases X:k<cs.length
  ·have G:=xg X;obtain⟨g,a1,au,a2,ax,rfl,hg,U,aa,T,P,an,ak⟩:=J.cell k X;have aB:=zl m hg U;have aA:=zl m hg aa;have a9:=zl m hg T;have a3:=zl m hg P;have a5:g<wr.heap.size:=by omega
   clear U aa T P an;generalize cs[k]=c at *;rw[G] at M;have H1:Hid (uh cs=(c.body++(cs.drop (k+1)).flatMap zm).foldl uk (uk (some tk) c.head)):=by rw[Hid,H.out,G];rfl
   simp only[us,zm,yz,yZ] at M;generalize hR:(cs.drop (k+1)).flatMap zm=rest at *;have HR:=OY hR;clear hR H G;cases l:vg tk c.head with
   |none=>
    have L:=OY l;have HF:Hid (uh cs=none):=by rw[Hid,H1.out,show uk (some tk) c.head=none from l,nO]
    clear H1 l;go_wp2_with (first|(go_at_call 102;refine(Aa w.heap.size _ (w.heap.size+1) tk c.head _ _ (by exact r.below (by go_grown)) (by omega) L).mono ?_;rintro e w1 ⟨rfl,x⟩;have Q:=Pc ((zo wr.heap.size wr).alloc (zh _) _) x;have Y:=Pc m Q;have b:=f.below Q;obtain⟨q,V,ar⟩:=b.boxed))
    exact zJ (v:=.tuple #[.agg #[.slice none 0 0],.bool false]) (by simp[results,results62,go_sem,q]) rfl (Cx HF (by go_grown))
   |some t1=>
    have L:=OY l;have aG:=iN l;have H2:Hid (uh cs=(c.body++rest).foldl uk (some t1)):=by rw[Hid,H1.out,show uk (some tk) c.head=some t1 from l]
    clear H1 l;go_wp2_with (first|(go_at_call 102;refine(B0 w.heap.size _ (w.heap.size+1) tk t1 c.head _ _ (by exact r.below (by go_grown)) (by omega) L (by exact zT y (by simp)) (by omega)).mono ?_;rintro e w1 ⟨rfl,af,x,A⟩;have Y:=(m.alloc y _).trans x;have b:=A.box _ _ _ (by omega) (by decide) (f.below zO);have W:=A.box _ _ _ (by omega) (by decide) (OZ.new wr _ _);obtain⟨ag,ae,am⟩:=W.boxed;have ar:=b.lt))
    go_loopw [23] (fun i wj=>∃(j:Nat) (p:List zg),j<=c.body.length/\i=.int .i64 j/\Below w.heap.size w wj/\TA w.heap.size wj (w.heap.size+1) p/\OZ wj w.heap.size #[.slice none 0 0] 127/\p.length+(c.body.drop j).length+rest.length<=1000/\Hid (uh cs=(c.body.drop j++rest).foldl uk (some p))) (fun i _=>c.body.length-(intOf i).toNat)
    case atStart=>exact⟨0,t1,zv _,rfl,Y,af,b,(by simp;omega),H2⟩
    case round=>
     clear ag ae W am;obtain⟨j,p,hj,rfl,h,u,d,S,HJ⟩:=hrel;have C:=h.size;have ai:=d.lt;by_cases Z:j<c.body.length
     ·obtain⟨gl,a0,av,rfl,F,ac,z,D,_⟩:=ak.cell j Z;have aC:=zl h F ac;have a6:=zl h F z;have az:=zl h F D;have a8:gl<wr.heap.size:=by omega
      have I:=xg Z;clear ac z D;generalize c.body[j]=a at *;rw[I] at S;have s:Hid (uh cs=(c.body.drop (j+1)++rest).foldl uk (uk (some p) a)):=by rw[Hid,HJ.out,I];rfl
      simp only[yZ] at S;clear I HJ;cases l:vg p a with
      |none=>
       have L:=OY l;have HF:Hid (uh cs=none):=by rw[Hid,s.out,show uk (some p) a=none from l,nO]
       clear s l;go_wp2_with (first|(go_at_call 102;refine(Aa w.heap.size _ (w.heap.size+1) p a _ _ (by exact u.below (by go_grown)) (by omega) L).mono ?_;rintro e w3 ⟨rfl,K⟩;have R:=Pc ((zo wr.heap.size wr).alloc (zh _) _) K;have E:=Pc h R;have n:=d.below R;obtain⟨q,V,aE⟩:=n.boxed))
       exact zJ (v:=.tuple #[.agg #[.slice none 0 0],.bool false]) (by simp[results,results62,go_sem,q]) rfl (Cx HF (by go_grown))
      |some t2=>
       have L:=OY l;have a4:=iN l;have ah:Hid (uh cs=(c.body.drop (j+1)++rest).foldl uk (some t2)):=by rw[Hid,s.out,show uk (some p) a=some t2 from l]
       have ay:w.heap.size+1<wr.heap.size:=by obtain⟨_,hb,_⟩:=u;exact hb.lt
       clear s l;go_wp2_with (first|(go_at_call 102;refine(B0 w.heap.size _ (w.heap.size+1) p t2 a _ _ (by exact u.below (by go_grown)) (by omega) L (by exact zT C (by simp)) (by omega)).mono ?_;rintro e w3 ⟨rfl,aj,K,O⟩;have E:=(h.alloc C _).trans K;have n:=O.box _ _ _ (by omega) (by decide) (d.below zO)))
       go_roundw
       case rel=>exact⟨j+1,t2,by omega,by go_num,E,aj,n,by omega,ah⟩
       case measure=>simp[intOf];omega
     ·have HE:Hid (uh cs=((cs.drop (k+1)).flatMap zm).foldl uk (some p)):=by rw[Hid,HJ.out,ui (by omega),HR.out];rfl
      have ap:p.length+rest.length<=1000:=by omega
      clear HJ;go_wp2;go_roundw
      case rel=>exact⟨k+1,p,by omega,by go_num,h,u,d,by rw[HR.out];exact ap,HE⟩
      case measure=>simp[intOf];omega
  ·have HF:Hid (uh cs=some tk):=by rw[Hid,H.out,ui (by omega)];rfl
   obtain⟨ab,B,N,ad⟩:=r.view;obtain⟨hc,hf⟩:=N.rules;obtain⟨q,V⟩:=f.rules;have aw:=N.lt;clear H;go_wp2;have al:=xQ ad ((Pm.refl w.heap.size wr).setCell 0 (.slice ab tk.length B)) f (by decide);exact zJ (v:=.tuple #[.agg #[.slice ab tk.length B],.bool true]) (by simp[results,results62,go_sem,q]) rfl (FQ HF (by go_grown) al)
end
section
open Go.RowKit
variable {lo:Nat}
def Da(l:zj):Prop:=l.pred.size<=6/\0<l.pred.size/\l.args.length<=1000/\∀t∈l.args,0<t.size/\t.size<=6
def ex(c:zc):Prop:=(∀l∈zm c,Da l)/\c.body.length<=1000
end
section
open Go.Proofs.Tryz Go.RowKit
variable {lo:Nat}{r r2:List Pd}
def kx(l:zj):Nat:=l.args.length+1
def Qy(a:List zj):Nat:=a.foldr (fun l n=>kx l+n) 0
def QD(c:zc):Nat:=kx c.head+Qy c.body
def Qz(cs:List zc):Nat:=cs.foldr (fun c n=>QD c+n) 0
theorem oB:∀(r:List Pd) {ts:List ByteArray} {r2:List Pd},yd r=some (ts,r2)->ts.length+r2.length<=r.length
 |[],_,_,h=>by simp[yd] at h
 |[x],ts,r2,h=>by
  simp only[yd] at h;split at h<;>simp at h
  obtain⟨rfl,rfl⟩:=h;simp
 |x::y::r,ts,r2,h=>by
  simp only[yd] at h;split at h
  ·split at h
   ·cases a:yd r with
    |none=>rw[a] at h;simp at h
    |some z=>
     obtain⟨b,c⟩:=z;rw[a] at h;simp at h;have:=oB r a;obtain⟨rfl,rfl⟩:=h;simp;omega
   ·simp at h;obtain⟨rfl,rfl⟩:=h;simp;omega
  ·simp at h
theorem oj{a:zj}(h:yV r=some (a,r2)):kx a+r2.length<=r.length:=by
 cases r with
 |nil=>simp[yV,Pw] at h
 |cons x r=>
  unfold yV at h;split at h
  ·split at h
   ·split at h
    ·simp at h
    ·rename_i d c b;have:=oB _ b;split at h<;>simp at h
     obtain⟨rfl,rfl⟩:=h;simp[kx] at this ⊢;omega
   ·simp at h;obtain⟨rfl,rfl⟩:=h;simp[kx];omega
  ·simp at h
theorem NJ{a:zj}(h:uy r=some (a,r2)):kx a+r2.length<=r.length:=by
 unfold uy at h;split at h
 ·cases b:yV r.tail with
  |none=>rw[b] at h;simp at h
  |some z=>
   obtain⟨d,c⟩:=z;rw[b] at h;simp at h;have:=oj b;obtain⟨rfl,rfl⟩:=h;simp[kx] at this ⊢;omega
 ·exact oj h
theorem G7{n:Nat}:∀{r r2:List Pd} {b:List zj},xM n r=some (b,r2)->Qy b+r2.length<=r.length:=by
 induction n with
 |zero=>intro r r2 b h;simp[xM] at h
 |succ n g=>
  intro r r2 b h;cases c:uy r with
  |none=>rw[pu c] at h;cases h
  |some z=>
   obtain⟨a,e⟩:=z;have:=NJ c;by_cases f:Pw e=6
   ·rw[pe c f] at h;cases d:xM n e.tail with
    |none=>rw[d] at h;simp at h
    |some z=>
     rw[d] at h;simp at h;have:=g d;obtain⟨rfl,rfl⟩:=h;simp[Qy] at this ⊢;omega
   ·rw[pf c f] at h;simp at h;obtain⟨rfl,rfl⟩:=h;simp[Qy];omega
theorem Fi{n:Nat}{c:zc}(h:uR n r=some (c,r2)):QD c+r2.length<=r.length:=by
 unfold uR at h;split at h
 ·cases h
 ·rename_i a f d;have:=oj d;split at h
  ·split at h
   ·cases h
   ·rename_i b g e;have:=G7 e;split at h<;>simp at h
    obtain⟨rfl,rfl⟩:=h;simp[QD] at this ⊢;omega
  ·split at h<;>simp at h
   obtain⟨rfl,rfl⟩:=h;simp[QD,Qy];omega
theorem sN{b:Nat}:∀{m:Nat} {r:List Pd} {cs:List zc},yH b m r=some cs->Qz cs<=r.length
 |_,[],cs,h=>by simp[yH] at h;subst h;simp[Qz]
 |0,_::_,cs,h=>by simp[yH] at h
 |m+1,x::r,cs,h=>by
  cases d:uR b (x::r) with
  |none=>rw[rY (by simp) d] at h;cases h
  |some z=>
   obtain⟨c,r2⟩:=z;rw[po (by simp) d] at h;cases a:yH b m r2 with
   |none=>rw[a] at h;simp at h
   |some g=>
    rw[a] at h;simp at h;subst h;have f:=Fi d;have e:=sN a;simp only[Qz,List.foldr_cons,yZ] at f e ⊢;omega
theorem r8(b:List zj):xi b+b.length=Qy b:=by
 induction b with
 |nil=>rfl
 |cons a b c=>simp[xi,Qy,kx] at c ⊢;omega
theorem wO{cs:List zc}{c:zc}(h:c∈cs):QD c<=Qz cs:=by
 induction cs with
 |nil=>cases h
 |cons a cs b=>
  rcases zw.1 h with rfl|h
  ·simp[Qz]
  ·have:=b h;simp[Qz] at this ⊢;omega
theorem oh(cs:List zc):(cs.flatMap zm).length<=Qz cs:=by
 induction cs with
 |nil=>simp
 |cons a cs b=>have:=r8 a.body;simp[Qz,QD,zm,kx] at b ⊢;omega
theorem o5(cs:List zc):cs.length<=Qz cs:=by
 induction cs with
 |nil=>simp
 |cons a cs b=>simp[Qz,QD,kx] at b ⊢;omega
theorem iu{cs:List zc}(h:Qz cs<=1000):∀c∈cs,vD c:=fun c a=>by
 have b:=wO a;have d:=r8 c.body;unfold QD kx at b;exact⟨by omega,by omega⟩
theorem iW:∀(n:Nat) (s:ByteArray) (i:Nat) (l:List (Int×ByteArray)),Pn n s i=some l->l.length<=s.size-i
 |0,_,_,l,h=>by simp[Pn] at h;subst h;simp
 |n+1,s,i,l,h=>by
  unfold Pn at h;split at h
  ·rename_i b;split at h
   ·have:=iW n s (i+1) l h;omega
   ·split at h
    ·cases h
    ·rename_i d;split at h
     ·cases h
     ·cases a:Pn n s (yi s i (xa (Pi s i) (Pi s (i+1)))) with
      |none=>rw[a] at h;simp at h
      |some c=>
       rw[a] at h;simp at h;subst h;have:=iW n s _ c a;have:=pP s i _ b rfl d;simp;omega
  ·simp at h;subst h;simp
theorem sB{s:ByteArray}{l:List Pd}(h:Pl s=some l):l.length<=s.size:=by have:=iW _ s 0 l h;omega
def uu(s:ByteArray):Except Int (List zc×List zg):=
 if 500<s.size then .error 1 else
 match Pl s with
 |none=>.error 2
 |some l=>
  match yH l.length l.length l with
  |none=>.error 3
  |some a=>
   if a.any yG then .error 4 else
   match uh a with
   |none=>.error 5
   |some t=>
    if a.all xe then
     if (xK (t.length+1) t a).2 then .ok (a,(xK (t.length+1) t a).1) else .error 7
    else .error 6
def hG(o:Except Int (List zc×List zg))(w:World)(e:Ending)(a:World):Prop:=
 Below w.heap.size w a/\match o with
  |.error n=>e=.returned (.tuple #[.pointer none,.int .i64 n])
  |.ok (d,t)=>∃b v c,e=.returned (.tuple #[.pointer (some ⟨b,0,none⟩),.int .i64 0])/\OZ a b #[v,c] 131/\PE w.heap.size 171 a v d/\a.ownsRow w.heap.size 221 3 c t.length (xZ t)/\w.heap.size<=b
theorem Jn(s:ByteArray)(w:World)(d:s.size<=500)(h:Pl s=none):Calls prog 59 #[.string s] w fun e b=>e=.returned (.tuple #[.slice none 0 0,.bool false])/\Below w.heap.size w b:=by
 refine(AJ s w d).mono ?_;rintro e b ⟨c,a⟩;rw[h] at a;exact⟨a,c⟩
theorem nF(s:ByteArray)(w:World)(l:List Pd)(i:s.size<=500)(h:Pl s=some l):Calls prog 59 #[.string s] w fun e d=>∃v,e=.returned (.tuple #[v,.bool true])/\d.ownsRow w.heap.size 182 2 v l.length (jL l)/\l.length<=500/\Below w.heap.size w d:=by
 refine(AJ s w i).mono ?_;rintro e d ⟨g,f⟩;rw[h] at f;obtain⟨v,a,b,c⟩:=f;exact⟨v,a,b,by omega,g⟩
theorem IX(w:World)(b:Value)(l:List Pd)(a:Nat)(f:w.ownsRow a 182 2 b l.length (jL l))(i:l.length<=500)(h:yH l.length l.length l=none):
  Calls prog 60 #[b] w fun e d=>e=.returned (.tuple #[.slice none 0 0,.bool false])/\Below w.heap.size w d:=by
 refine(Qg w b l a f i).mono ?_;rintro e d ⟨g,c⟩;rw[h] at c;exact⟨c,g⟩
theorem ru(w:World)(d:Value)(l:List Pd)(c:Nat)(cs:List zc)(i:w.ownsRow c 182 2 d l.length (jL l))(k:l.length<=500)(h:yH l.length l.length l=some cs):
  Calls prog 60 #[d] w fun e f=>∃v,e=.returned (.tuple #[v,.bool true])/\PE w.heap.size 171 f v cs/\Below w.heap.size w f:=by
 refine(Qg w d l c i k).mono ?_;rintro e f ⟨j,g⟩;rw[h] at g;obtain⟨v,a,b⟩:=g;exact⟨v,a,b,j⟩
theorem FJ(w:World)(v:Value)(cs:List zc)(a:PE lo 171 w v cs)(f:(cs.flatMap zm).length<=1000)(h:uh cs=none):
  Calls prog 62 #[v] w fun e c=>e=.returned (.tuple #[.agg #[.slice none 0 0],.bool false])/\Below w.heap.size w c:=by
 refine(oZ w v cs a f).mono ?_;rintro e c ⟨d,b⟩;rw[h] at b;exact⟨b,d⟩
theorem ic(w:World)(v:Value)(cs:List zc)(t:List zg)(c:PE lo 171 w v cs)(j:(cs.flatMap zm).length<=1000)(h:uh cs=some t):
  Calls prog 62 #[v] w fun e d=>∃g,e=.returned (.tuple #[.agg #[g],.bool true])/\d.ownsRow w.heap.size 221 3 g t.length (xZ t)/\Below w.heap.size w d:=by
 refine(oZ w v cs c j).mono ?_;rintro e d ⟨i,f⟩;rw[h] at f;obtain⟨v,a,b⟩:=f;exact⟨v,a,b,i⟩
theorem EE(s:ByteArray)(w:World)(c:500<s.size)(a:s.size<=9223372036854775807):
  Calls prog 32 #[.string s] w fun e b=>hG (.error 1) w e b:=by
 go_enter func32,ntmps32;go_wp2;go_ret2
 exact⟨zo _ _,rfl⟩
theorem Hk(s:ByteArray)(w:World)(d:s.size<=500)(b:Pl s=none):
  Calls prog 32 #[.string s] w fun e f=>hG (.error 2) w e f:=by
 have c:=OY b;clear b;go_enter func32,ntmps32;go_wp2_with (first|(go_at_call 59;refine(Jn s _ d c).mono ?_;rintro e g ⟨rfl,a⟩))
 go_ret2
 exact⟨a,rfl⟩
theorem NO(s:ByteArray)(w:World)(n:s.size<=500)(l:List Pd)(h:Pl s=some l)(i:yH l.length l.length l=none):
  Calls prog 32 #[.string s] w fun e o=>hG (.error 3) w e o:=by
 have k:=OY h;have m:=OY i;clear h i;go_enter func32,ntmps32;go_wp2_with (first|(go_at_call 59;refine(nF s _ l n k).mono ?_;rintro e t ⟨q,rfl,a,b,f⟩;obtain⟨j,g,rfl⟩:=zq a)|(go_at_call 60;refine(IX _ _ l _ a b m).mono ?_;rintro e p ⟨rfl,d⟩;have c:=Pc f d))
 go_ret2
 exact⟨c,rfl⟩
theorem Fu(s:ByteArray)(w:World)(A:s.size<=500)(l:List Pd)(cs:List zc)(G:cs.any yG=true)(u:Pl s=some l)(B:yH l.length l.length l=some cs)(p:∀c∈cs,vD c)(f:cs.length<=1000):
  Calls prog 32 #[.string s] w fun e v=>hG (.error 4) w e v:=by
 have y:=OY u;have z:=OY B;have j:=OY p;have d:=OY f;go_enter func32,ntmps32;go_wp2_with (first|(go_at_call 59;refine(nF s _ l A y).mono ?_;rintro e I ⟨F,rfl,b,k,n⟩;obtain⟨x,q,rfl⟩:=zq b)|(go_at_call 60;refine(ru _ _ l _ cs b k z).mono ?_;rintro e D ⟨H,rfl,a,i⟩;obtain⟨C,t,rfl⟩:=a.qw;have o:=Pc n i)|(go_at_call 61;refine(rf _ _ cs a j.out d.out).mono ?_;rintro e E ⟨rfl,g⟩;have m:=Pc o g;have h:=a.below g))
 go_ret2
 exact⟨m,rfl⟩
theorem EL(s:ByteArray)(w:World)(G:s.size<=500)(l:List Pd)(cs:List zc)(O:cs.any yG=false)(z:Pl s=some l)(H:yH l.length l.length l=some cs)(v:∀c∈cs,vD c)(i:cs.length<=1000)(g:(cs.flatMap zm).length<=1000)(J:uh cs=none):
  Calls prog 32 #[.string s] w fun e B=>hG (.error 5) w e B:=by
 have D:=OY z;have E:=OY H;have m:=OY v;have h:=OY i;have f:=OY g;have A:=OY J;go_enter func32,ntmps32;go_wp2_with (first|(go_at_call 59;refine(nF s _ l G D).mono ?_;rintro e Q ⟨N,rfl,b,n,q⟩;obtain⟨C,x,rfl⟩:=zq b)|(go_at_call 60;refine(ru _ _ l _ cs b n E).mono ?_;rintro e K ⟨P,rfl,a,k⟩;obtain⟨I,y,rfl⟩:=a.qw;have u:=Pc q k)|(go_at_call 61;refine(rf _ _ cs a m.out h.out).mono ?_;rintro e L ⟨rfl,j⟩;have o:=Pc u j;have d:=a.below j)|(go_at_call 62;refine(FJ _ _ cs d f.out A).mono ?_;rintro e M ⟨rfl,p⟩;have t:=Pc o p;have F:=t.size))
 go_ret2
 exact⟨(by go_grown),rfl⟩
theorem F2(s:ByteArray)(w:World)(Q:s.size<=500)(l:List Pd)(cs:List zc)(t:List zg)(hm:cs.any yG=false)(T:cs.all xe=false)(J:Pl s=some l)(R:yH l.length l.length l=some cs)(F:∀c∈cs,vD c)(n:cs.length<=1000)(h:(cs.flatMap zm).length<=1000)(U:uh cs=some t):
  Calls prog 32 #[.string s] w fun e L=>hG (.error 6) w e L:=by
 have N:=OY J;have O:=OY R;have j:=OY F;have d:=OY n;have g:=OY h;have K:=OY U;go_enter func32,ntmps32;go_wp2_with (first|(go_at_call 59;refine(nF s _ l Q N).mono ?_;rintro e w1 ⟨Z,rfl,f,v,y⟩;obtain⟨M,G,rfl⟩:=zq f)|(go_at_call 60;refine(ru _ _ l _ cs f v O).mono ?_;rintro e W ⟨cv,rfl,b,u⟩;obtain⟨S,I,rfl⟩:=b.qw;have B:=Pc y u)|(go_at_call 61;refine(rf _ _ cs b j.out d.out).mono ?_;rintro e X ⟨rfl,o⟩;have x:=Pc B o;have a:=b.below o)|(go_at_call 62;refine(ic _ _ cs t a g.out K).mono ?_;rintro e H ⟨Y,rfl,E,k⟩;obtain⟨A,p,rfl⟩:=zq E;have m:=Pc x k;have P:=m.size;have i:=a.below k)|(go_at_call 63;refine(wQ _ _ cs (by exact i.below (by go_grown)) j.out d.out).mono ?_;rintro e V ⟨rfl,z⟩;have C:=(zo H.heap.size H).alloc (zh _) (.cells #[.slice A t.length p] 127);have q:=Pc C z;have D:=Pc m q))
 go_ret2
 exact⟨D,rfl⟩
theorem GB(s:ByteArray)(w:World)(hs:s.size<=500)(l:List Pd)(cs:List zc)(t:List zg)(hm:cs.any yG=false)(ac:cs.all xe=true)(ae:(xK (t.length+1) t cs).2=false)(V:Pl s=some l)(hP:yH l.length l.length l=some cs)(P:∀c∈cs,vD c)(u:cs.length<=1000)(m:(cs.flatMap zm).length<=1000)(hC:uh cs=some t)(L:t.length<=1000)(O:∀e∈t,e.qh<=0):
  Calls prog 32 #[.string s] w fun e Y=>hG (.error 7) w e Y:=by
 have HS:=OY V;have HP:=OY hP;have j:=OY P;have b:=OY u;have i:=OY m;have W:=OY hC;have N:=OY L;have G:=OY O;go_enter func32,ntmps32;go_wp2_with (first|(go_at_call 59;refine(nF s _ l hs HS).mono ?_;rintro e w1 ⟨fv,rfl,h,F,H⟩;obtain⟨Z,Q,rfl⟩:=zq h)|(go_at_call 60;refine(ru _ _ l _ cs h F HP).mono ?_;rintro e w2 ⟨cv,rfl,d,C⟩;obtain⟨ab,S,rfl⟩:=d.qw;have J:=Pc H C)|(go_at_call 61;refine(rf _ _ cs d j.out b.out).mono ?_;rintro e R ⟨rfl,v⟩;have o:=Pc J v;have a:=d.below v)|(go_at_call 62;refine(ic _ _ cs t a i.out W).mono ?_;rintro e A ⟨pv,rfl,y,k⟩;obtain⟨I,x,rfl⟩:=zq y;have p:=Pc o k;have aa:=p.size;have n:=a.below k)|(go_at_call 63;refine(wQ _ _ cs (by exact n.below (by go_grown)) j.out b.out).mono ?_;rintro e w5 ⟨rfl,q⟩;have K:=(zo A.heap.size A).alloc (zh _) (.cells #[.slice I t.length x] 127);have f:=Pc K q;have M:=Pc p f)|(go_at_call 64;refine(Ex R.heap.size _ A.heap.size t _ cs R rfl (Pc k f) a j.out b.out ⟨_,(OZ.new A _ _).below q,zE y f⟩ N.out G.out).mono ?_;rintro e w6 ⟨rfl,z,D⟩;obtain⟨U,T,g,E⟩:=z.view;obtain⟨af,ad⟩:=g.rules;have B:=M.trans (D.mono (zT o.size (zh _)));have X:=g.lt))
 go_ret2
 exact⟨B,rfl⟩
theorem JO(s:ByteArray)(w:World)(hs:s.size<=500)(l:List Pd)(cs:List zc)(t:List zg)(hm:cs.any yG=false)(ad:cs.all xe=true)(af:(xK (t.length+1) t cs).2=true)(X:Pl s=some l)(hP:yH l.length l.length l=some cs)(R:∀c∈cs,vD c)(z:cs.length<=1000)(p:(cs.flatMap zm).length<=1000)(hC:uh cs=some t)(N:t.length<=1000)(Q:∀e∈t,e.qh<=0):
  Calls prog 32 #[.string s] w fun e w'=>hG (.ok (cs,(xK (t.length+1) t cs).1)) w e w':=by
 have HS:=OY X;have HP:=OY hP;have m:=OY R;have d:=OY z;have j:=OY p;have Y:=OY hC;have P:=OY N;have J:=OY Q;go_enter func32,ntmps32;go_wp2_with (first|(go_at_call 59;refine(nF s _ l hs HS).mono ?_;rintro e w1 ⟨fv,rfl,i,I,v⟩;obtain⟨aa,S,rfl⟩:=zq i)|(go_at_call 60;refine(ru _ _ l _ cs i I HP).mono ?_;rintro e w2 ⟨cv,rfl,f,H⟩;obtain⟨ac,U,rfl⟩:=f.qw;have L:=Pc v H)|(go_at_call 61;refine(rf _ _ cs f m.out d.out).mono ?_;rintro e T ⟨rfl,A⟩;have o:=Pc L A;have a:=f.below A)|(go_at_call 62;refine(ic _ _ cs t a j.out Y).mono ?_;rintro e F ⟨pv,rfl,D,g⟩;obtain⟨K,C,rfl⟩:=zq D;have x:=Pc o g;have ab:=x.size;have q:=a.below g)|(go_at_call 63;refine(wQ _ _ cs (by exact q.below (by go_grown)) m.out d.out).mono ?_;rintro e w5 ⟨rfl,y⟩;have M:=(zo F.heap.size F).alloc (zh _) (.cells #[.slice K t.length C] 127);have b:=Pc M y;have O:=Pc x b)|(go_at_call 64;refine(Ex T.heap.size _ F.heap.size t _ cs T rfl (Pc g b) a m.out d.out ⟨_,(OZ.new F _ _).below y,zE D b⟩ P.out J.out).mono ?_;rintro e w6 ⟨rfl,E,u⟩;obtain⟨W,V,h,n⟩:=E.view;obtain⟨ag,ae⟩:=h.rules;have G:=O.trans (u.mono (zT o.size (zh _)));have Z:=h.lt))
 have B:=G.size;have k:=a.below ((Pc g b).trans u);go_ret2
 exact⟨(by go_grown),w6.heap.size,_,_,rfl,OZ.new _ _ _,(k.low v.size).below zO,yr (zE n zO) o.size,B⟩
theorem C6(s:ByteArray)(w:World)(p:s.size<=9223372036854775807):
  Calls prog 32 #[.string s] w fun e v=>hG (uu s) w e v:=by
 unfold uu;split
 ·rename_i u;exact EE s w u p
 ·rename_i u;have c:s.size<=500:=by omega
  split
  ·rename_i g;exact Hk s w c g
  ·rename_i l g;split
   ·rename_i j;exact NO s w c l g j
   ·rename_i d j;have x:l.length<=500:=by
     have:=sB g;omega
    have y:=sN j;have f:=iu (cs:=d) (by omega);have b:d.length<=1000:=by have:=o5 d;omega
    have a:(d.flatMap zm).length<=1000:=by have:=oh d;omega
    split
    ·rename_i q;exact Fu s w c l d q g j f b
    ·rename_i q;have h:d.any yG=false:=by simpa using q
     split
     ·rename_i m;exact EL s w c l d h g j f b a m
     ·rename_i t m;have n:t.length<=1000:=by have:=rA _ _ _ m;simp only[jH] at this;omega
      have o:=s6 _ [] (by simp) t m;split
      ·rename_i i;split
       ·rename_i k;exact JO s w c l d t h i k g j f b a m n o
       ·rename_i k;exact GB s w c l d t h i (by simpa using k) g j f b a m n o
      ·rename_i i;exact F2 s w c l d t h (by simpa using i) g j f b a m
end
section
open Go.RowKit
variable {lo:Nat}
def kp(lo:Nat)(w:World)(pb:Nat)(cs:List zc)(t:List zg):Prop:=lo<=pb/\∃v a,OZ w pb #[v,a] 131/\PE lo 171 w v cs/\w.ownsRow lo 221 3 a t.length (xZ t)
theorem kp.below{w b:World}{pb:Nat}{cs:List zc}{t:List zg}(h:kp lo w pb cs t)(a:Below w.heap.size w b):kp lo b pb cs t:=by
 obtain⟨d,v,e,f,c,g⟩:=h;exact⟨d,v,e,f.below a,c.below a,zE g a⟩
end
section
variable {v:ByteArray}{vs:List ByteArray}
theorem Mr{t:ByteArray}:v∈jq vs t↔v∈vs∨(v=t/\zV v=true):=by
 unfold jq;cases a:zV t with
 |false=>
  exact⟨zf,fun h=>h.elim id fun x=>by have g:=x.2;rw[x.1,a] at g;cases g⟩
 |true=>
  cases b:yt t vs with
  |true=>
   exact⟨zf,fun h=>h.elim id fun⟨e,_⟩=>by subst e;exact qS.1 b⟩
  |false=>
   simp only[Bool.not_false,Bool.and_true,if_true,zW,ud];exact⟨fun h=>h.elim zf fun e=>ze ⟨e,by rw[e];exact a⟩,fun h=>h.elim zf fun e=>ze e.1⟩
theorem rG{v:ByteArray}:∀{args vs:List ByteArray},v∈xp vs args↔v∈vs∨(v∈args/\zV v=true)
 |[],vs=>by simp[xp]
 |t::r,vs=>by
  show v∈xp (jq vs t) r↔_;rw[rG,Mr,zw];constructor
  ·rintro((h|⟨h,g⟩)|⟨h,g⟩)
   ·exact zf h
   ·exact ze ⟨zf h,g⟩
   ·exact ze ⟨ze h,g⟩
  ·rintro(h|⟨h|h,g⟩)
   ·exact zf (zf h)
   ·exact zf (ze ⟨h,g⟩)
   ·exact ze ⟨h,g⟩
theorem En{v:ByteArray}:∀{a:List zj} {vs:List ByteArray},v∈a.foldl kt vs↔v∈vs∨(zV v=true/\∃l∈a,v∈l.args)
 |[],vs=>by simp
 |l::r,vs=>by
  rw[uv,En,kt,rG];simp only[zw,exists_eq_or_imp];constructor
  ·rintro((h|⟨h,g⟩)|⟨g,h⟩)
   ·exact zf h
   ·exact ze ⟨g,zf h⟩
   ·exact ze ⟨g,ze h⟩
  ·rintro(h|⟨g,h|h⟩)
   ·exact zf (zf h)
   ·exact zf (ze ⟨h,g⟩)
   ·exact ze ⟨g,h⟩
theorem Ao{v:ByteArray}:∀{a:List zj} {vs:List ByteArray},v∈a.foldl vx vs↔v∈vs∨(zV v=true/\∃l∈a,l.neg=false/\v∈l.args)
 |[],vs=>by simp
 |l::r,vs=>by
  rw[uv,Ao,vx];simp only[zw,exists_eq_or_imp];cases b:l.neg with
  |true=>simp
  |false=>
   rw[za (by simp),rG];constructor
   ·rintro((h|⟨h,g⟩)|⟨g,h⟩)
    ·exact zf h
    ·exact ze ⟨g,zf ⟨rfl,h⟩⟩
    ·exact ze ⟨g,ze h⟩
   ·rintro(h|⟨g,⟨-,h⟩|h⟩)
    ·exact zf (zf h)
    ·exact zf (ze ⟨h,g⟩)
    ·exact ze ⟨g,h⟩
theorem tY{c:zc}:v∈xU c↔zV v=true/\(v∈c.head.args∨∃l∈c.body,v∈l.args):=by
 unfold xU;rw[En,rG];constructor
 ·rintro((h|⟨h,g⟩)|⟨g,h⟩)
  ·exact zC h (by simp)
  ·exact⟨g,zf h⟩
  ·exact⟨g,ze h⟩
 ·rintro⟨g,h|h⟩
  ·exact zf (ze ⟨h,g⟩)
  ·exact ze ⟨g,h⟩
theorem gJ{c:zc}:v∈zy c↔zV v=true/\∃l∈c.body,l.neg=false/\v∈l.args:=by
 unfold zy;rw[Ao];simp
theorem mp{args:List ByteArray}:qn vs args=true↔∀t∈args,zV t=true->t∈vs:=by
 unfold qn;rw[lq];constructor
 ·intro h t b a;have:=h t b;rw[a,mt,mE] at this;exact qS.1 this
 ·intro h t b;cases a:zV t with
  |false=>rfl
  |true=>rw[mt,mE];exact qS.2 (h t b a)
end
end Go.Proofs.YteampbddflhngaaGreat
