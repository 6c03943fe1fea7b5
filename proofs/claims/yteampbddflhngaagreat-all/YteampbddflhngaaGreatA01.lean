import Derived.WalkKit
import Derived.WalkSpells
import Derived.WalkLawsBesides
import Derived.Deep.Light
import Derived.Handy
import Derived.Laws.IdiomStrings
import Derived.WalkSmall
import Derived.WideShapes
import Derived.Test.YteampbddflhngaaGreatProg
import Derived.Deep.QuietTactic
import Derived.BigQuiet
import Derived.Deep.LoopGhost
import Derived.Deep.RegionLaw
import Derived.Deep.OwnRows
import Derived.Deep.RegionHeld3
namespace Go.Proofs.YteampbddflhngaaGreat
open List renaming length→List.j,getD→List.d,take→List.G,map→List.w,foldl→List.H,getD_eq_getElem?_getD→k_,replicate→m_,range→w_,filter_cons→x_,drop_eq_nil_of_le→B_,drop_drop→G_,drop_eq_nil_iff→H_,map_drop→J_,length→L_,append_nil→M_,headD_cons→N_
open _root_.Array renaming size→Array.q,getD→Array.d,toList→Array.v,map→Array.w,foldl→Array.H,length_toList→p_,getElem?_modify→t_,getElem?_eq_some_iff→v_
open _root_.ByteArray renaming size→ByteArray.q,toList→ByteArray.v,empty→g_,size_append→h_,size_extract→l_,append_assoc→r_
open Go.RowKit.Below renaming size→Go.RowKit.Below.q,setCell→Go.RowKit.Below.x,mono→Go.RowKit.Below.y,trans→Go.RowKit.Below.A,alloc→Go.RowKit.Below.C,heap_setCell→u_
open Go.TypeInfo renaming size→Go.TypeInfo.q
open Go.World.grownBy renaming size→Go.World.grownBy.q
open Go.RowKit.Hid renaming out→Go.RowKit.Hid.l
open Go.World renaming heap→Go.World.o,setCell→Go.World.x,cell?→Go.World.p,alloc→Go.World.C,ownsRow→Go.World.r,setCell→o_,size_alloc→q_,cell?_alloc_mark→A_,cell?→C_
open Go.Value renaming slice→Go.Value.k,string→Go.Value.g,bool→Go.Value.i,cells→Go.Value.E,ownBlock→Go.Value.m,pointer→Go.Value.u,tuple→Go.Value.B,string→j_,ownBlock→n_
open Go.TypeDesc renaming slice→Go.TypeDesc.k,string→Go.TypeDesc.g,bool→Go.TypeDesc.i,pointer→Go.TypeDesc.u,tuple→Go.TypeDesc.B
open Option renaming getD→Option.d,toList→Option.v,map→Option.w,isSome→Option.I,map_map→O_,some→Z,none→Y
open Go.Calls renaming mono→Go.Calls.y
open Eq renaming trans→Eq.A,symm→Eq.z
open Iff renaming trans→Iff.A,symm→Iff.z
open Go.World.ownsRow renaming alloc→Go.World.ownsRow.C
open Go.Obj renaming cells→Go.Obj.E,cells→D_
open Int renaming toNat→Int.D,eq_ofNat_of_zero_le→z_
open UInt8 renaming toNat→UInt8.D
open Ne renaming symm→Ne.z,symm→I_
open Classical renaming byContradiction→i_
open Nat renaming le_refl→s_,mul_le_mul→E_,ne_of_gt→K_
open Go.Addr renaming add_lit→y_
open Bool renaming not_false→F_
open Prod renaming snd→P_
open Go.RowKit renaming Hid→X,intOf→d_
open Go renaming World→U,Value→O,Calls→c_,TypeId→f_
open Go.Proofs.Tryz renaming prog→e_
set_option linter.all false
set_option maxRecDepth 100000
set_option maxHeartbeats 2000000
section
open Go.RowKit
abbrev ι(x:Int):Value:=.int .i64 x
abbrev π(b:Nat):Value:=.u (Z ⟨b,0,Y⟩)
abbrev ν:Value:=.k Y 0 0
abbrev μ(w w':U):Prop:=Go.RowKit.Below w.o.q w w'
abbrev κ:=List ByteArray
abbrev ε:=Ending.returned
abbrev δ(b:Nat):Addr:=⟨b,0,Y⟩
abbrev ω(b o:Nat):Addr:=⟨b,o,Y⟩
abbrev Λ:=ByteArray
abbrev Φ:=List Nat
abbrev Γ:=List O
def η{P:Prop}(h:P:=by omega):P:=h
def θ{P:Prop}(h:P:=by decide):P:=h
def ζ{P:Prop}(h:P:=by simp):P:=h
def γ{P:Prop}(h:P:=by go_grown):P:=h
def χ{P:Prop}(h:P:=by kernel_rfl):P:=h
def ξ{P:Prop}(h:P:=by go_num):P:=h
def υ{P:Prop}(h:P:=by simp;omega):P:=h
def a_{P:Prop}(h:P:=by simp[Go.Value.oneCell']):P:=h
def b_{P:Prop}(h:P:=by unfold Go.maxLen;omega):P:=h
variable {w1 w:U}
def U2{p:Prop}(h:p):X p:=h
def LB{W:U}(a:μ W w1):(∀b o,b<W.o.q->w1.p (ω b o)=W.p (ω b o))/\(∀b o,b<W.o.q->w1.frozen? (ω b o)=W.frozen? (ω b o)):=
 ⟨λb o h=>a.cell (p:=(ω b o)) h,λb o h=>a.frozen (p:=(ω b o)) h⟩
def zG{B:Nat}{a w:U}(h:Below B a w)(n:Nat):Below B a (w.drewN n):=below_drewN h n
abbrev zR:=@Below.refl
abbrev zN:=@zG
abbrev zA:=@Below.alloc
abbrev zD:=@Below.drew
abbrev zS:=@Below.setCell
def φ{P:Prop}(h:P:=by repeat'(first|with_reducible(first|apply zR|assumption|apply zN|apply zA|apply zD|apply zS)|go_size)):P:=h
def zJ{B:Nat}{a:U}(b:Below B w a)(d:μ a w1)(c:B<=w.o.q):Below B w w1:=
 b.A (d.y (Nat.le_trans c b.q))
def U6{a:U}(b:μ w a)(c:μ a w1):μ w w1:=zJ b c (s_ _)
def zQ{o:Obj}:μ w (w.C o):=(Below.refl _ _).C (s_ _) _
def zi{B b o:Nat}{w':U}{v:Option O}(h:Below B w w')(c:b<B)(a:w.p (ω b o)=v):w'.p (ω b o)=v:=(h.cell (p:=(ω b o)) c).A a
def zy{w':U}{a:Nat}{e:f_}{b:Nat}{v:O}{n:Nat}{xs:Γ}(h:w.r a e b v n xs)(j:μ w w'):w'.r a e b v n xs:=by
 obtain⟨k,f⟩:=h;refine⟨k,?_⟩;rcases f with f|⟨g,d,c,l,m,i,r⟩;exact Or.inl f;refine Or.inr ⟨g,d,c,l,m,?_,r⟩;rw[j.block g (v_.1 i).1];exact i
section
variable {P:Program} {ops:Array Oper} {rest:List Oper} {o:Oper} {a:Act} {Q:Exit->Act->U->Prop}
def kU(B r:U)(l:Γ)(te:f_)(R:o.guard=Y)(s x:Operand)(t:f_)
  (ho:o.op=.call {callee:=.builtin .append,args:=#[s,x],argTypes:=#[t,t]})
  (f:Nat) (e:f_) (i:TypeInfo) (z:O) (d m:Nat) (ht:P.underlying t=Z (.k e)) (hi:P.info? e=Z i) (hz:i.zero=Z z)
  (I:i.q=d) (V:i.bytes=m) (T:z.E.q=d) (aa:0<d)
  (v:O) (n:Nat) (M:Γ) (hs:a.eval s=v) (E:B.r f e d v n M) (p:μ B r)
  (b c:Nat) (hx:a.eval x=.k (Z (δ b)) 1 c) (hb:b=r.o.q) (hl:l.j=d) (h1:∀u∈l,u.oneCell'=true)
  (hn:n<=1048576) (C:m<=1000) (S:f<=B.o.q)
  (h:∀K y,y.r f e d K (n+1) (M++l)->Below f B y->(∀b o,B.o.q<=b->b<r.o.q->y.p (ω b o)=r.p (ω b o)) →
   (∀b o,B.o.q<=b->b<r.o.q->y.frozen? (ω b o)=r.frozen? (ω b o)) →
   (∀k,k<B.o.q->Z k≠v.m->y.o[k]?=B.o[k]?)->r.o.q<=y.o.q->wpList P ops Q rest (a.put o.dst K) y):
  wpList P ops Q (o::rest) a (r.C (.E l.toArray te)):=by
 have F:=zy E p;have H:∀k,v.m=Z k->f<=k/\k<B.o.q:=by
  intro k D;obtain⟨_,h2⟩:=E;rcases h2 with⟨W,_⟩|⟨g,ad,ac,W,R,hh,_⟩
  .subst W;cases D
  .subst W;simp only[n_,Option.some.injEq] at D;subst D;exact⟨R,(v_.1 hh).1⟩
 have ab:=p.q;subst hb;refine wpList_append_own _ R s x t ho f e i z d m ht hi hz I V T aa v n M hs (F.C _) (δ r.o.q) 1 c l hx η ?_ h1 ?_ ?_ ?_ ?_
 .intro j u hj;rw[y_,Nat.zero_add,A_];simpa using hj
 .unfold maxLen;omega
 .have:(n+1)*m<=1048577*1000:=E_ η C;omega
 .simp;omega
 .intro K y h2 A _;have q:∀k,k<r.o.q->Z k≠v.m->y.o[k]?=r.o[k]?:=λk D J=>by
   rw[A.block k υ J];exact Below.heap_alloc _ _ _ D
  have N:r.o.q<=y.o.q:=by have:=A.q;simp at this;omega
  refine h K y h2 ⟨A.os.A p.os,A.tape.A p.tape,A.output.A p.output,η,λk D=>?_⟩ (λb o L G=>?_) (λb o L G=>?_) (λk D J=>?_) N
  .rw[q k η (λe=>by have:=H k e.z;omega)];exact p.block k η
  .exact U.cell?_of_block (w:=r) (q b G (λe=>by have:=H b e.z;omega))
  .exact U.frozen?_of_block (w:=r) (q b G (λe=>by have:=H b e.z;omega))
  .rw[q k η J];exact p.block k D
def Nn(w:U)(p:o.guard=Y)(x:Operand)(c b e:f_)(d:o.op=.convert c b x)
  (hs:P.underlying c=Z .g) (k:P.underlying b=Z (.k e)) (n:P.underlying e=Z (.int .u8)) (s:Λ) (l:a.eval x=.g s)
  (q:∀g h,(∀j (i:j<s.data.q),h.p (ω w.o.q j)=Z (.int .u8 (s.data[j].D:Int)))->μ w h →
   wpList P ops Q rest (a.put o.dst (.k (Z (δ w.o.q)) s.q g)) h):wpList P ops Q (o::rest) a w:=by
 refine wpList_plain p λK f=>?_;have m:=run_bytes_of_string (P:=P) w c b e s hs k n;unfold Oper.wp;simp[execOp,d,l,m,Result.andThen];refine f _ _ (q _ _ (λj i=>?_) ?_);have:=A_ w.drew (bytesRow s (grownCap w s.q 0 e)) e ((bytesRow s (grownCap w s.q 0 e)).q,(bytesRow s (grownCap w s.q 0 e)).q+1) j;rw[bytesRow_at s _ j i] at this;exact this;exact(Below.refl _ _).drew.C (s_ _) _
def T5(w:U)(r:o.guard=Y)(x:Operand)(d c e:f_)(f:o.op=.convert d c x)
  (hs:P.underlying d=Z (.k e)) (q:P.underlying e=Z (.int .u8)) (l:P.underlying c=Z .g) (s:Λ) (b cap:Nat) (m:a.eval x=.k (Z (δ b)) s.q cap)
  (p:∀j (h:j<s.data.q),w.p (ω b j)=Z (.int .u8 (s.data[j].D:Int)))
  (t:wpList P ops Q rest (a.put o.dst (.g s)) w):wpList P ops Q (o::rest) a w:=by
 refine wpList_plain r λK g=>?_;have k:=run_convert_bytes_back (P:=P) w d c e (δ b) cap s.data.v hs q l (λj h=>by
  have i:j<s.data.q:=by rw[p_] at h;exact h
  rw[y_,Nat.zero_add,p j i,Array.getElem_toList])
 have n:s.data.v.j=s.q:=by rw[p_];rfl
 rw[n] at k;unfold Oper.wp;simp[execOp,f,m,k,Result.andThen];exact g _ _ t
end
abbrev ze:=@Nat.le_refl
abbrev zr:=@List.getElem_mem
abbrev zt:=@Option.some.injEq
abbrev zn:=@Below.refl
abbrev yF:=@List.take_succ_eq_append_getElem
abbrev za:=@if_neg
abbrev yn:=@List.getElem?_eq_getElem
abbrev kZ:=@List.getD_eq_getElem?_getD
abbrev zs:=@Nat.zero_le
abbrev zb:=@if_pos
abbrev z7:=@List.mem_cons
abbrev z9:=@List.mem_map
abbrev yK:=@List.drop_eq_getElem_cons
abbrev yh:=@Nat.lt_of_lt_of_le
abbrev zg:=@Or.inr
abbrev zW:=@List.mem_append
abbrev yO:=@List.take_of_length_le
abbrev zh:=@Or.inl
abbrev yB:=@List.length_append
abbrev zP:=@bodyPost_ret
abbrev zX:=@Nat.le_trans
abbrev yk:=@Prod.mk.injEq
abbrev xo:=@List.mem_singleton
abbrev uI:=@List.getElem_append_left
abbrev uk:=@List.drop_eq_nil_of_le
abbrev xj:=@World.ownsRow_nil
abbrev xp:=@List.length_cons
abbrev xM:=@List.getElem_map
abbrev xv:=@List.length_map
abbrev xw:=@List.mem_filter
abbrev vh:=@List.mem_iff_getElem
abbrev uT:=@List.getElem_of_mem
abbrev d8:=@List.getElem?_eq_none
abbrev qG:=@Option.map_eq_some_iff
abbrev jB:=@List.getElem?_eq_some_iff
abbrev kB:=@Array.getElem?_eq_some_iff
abbrev uZ:=@List.flatMap_cons
abbrev uF:=@Option.getD_some
abbrev uK:=@Bool.and_eq_true
abbrev xU:=@List.map_cons
abbrev zC:=@absurd
abbrev vg:=@List.mem_flatMap
abbrev ve:=@List.take_length
abbrev vi:=@List.length_take
abbrev uQ:=@List.foldl_cons
abbrev uY:=@List.map_append
abbrev jF:=@List.take_append_drop
abbrev gJ:=@List.getElem?_append_right
abbrev jt:=@List.append_assoc
abbrev vD:=@List.append_nil
abbrev uM:=@Nat.zero_add
abbrev qR:=@List.ext_getElem
abbrev jH:=@Option.isSome_some
abbrev gz:=@List.set_append_right
abbrev j4:=@List.foldl_append
abbrev dS:=@List.getElem?_cons_zero
abbrev lK:=@List.eq_nil_of_length_eq_zero
abbrev gZ:=@List.mem_of_mem_take
abbrev dB:=@List.getElem_cons_zero
abbrev qF:=@List.mem_range
abbrev j5:=@List.nodup_cons
abbrev kX:=@Option.isSome_none
abbrev vB:=@Nat.add_zero
abbrev d9:=@List.map_congr_left
abbrev mA:=@List.mem_or_eq_of_mem_set
abbrev q7:=@List.sum_cons
abbrev li:=@List.getElem?_cons_succ
abbrev mh:=@List.getElem_append_right
abbrev jD:=@List.length_nil
abbrev vF:=@Nat.sub_self
abbrev mH:=@List.getElem?_take
abbrev my:=@Option.isSome_iff_exists
abbrev l7:=@List.zipWith_cons_cons
abbrev n4:=@List.getElem_concat_length
abbrev f5:=@Nat.mul_le_mul_right
abbrev jY:=@Option.map_some
abbrev fw:=@List.mem_of_mem_drop
abbrev fy:=@List.mem_of_getElem?
abbrev sw:=@List.getElem?_append_left
abbrev l0:=@List.getElem?_toArray
abbrev kV:=@Option.getD_none
abbrev gu:=@List.all_eq_true
abbrev fh:=@Bool.false_eq_true
abbrev n5:=@List.length_erase_of_mem
abbrev fT:=@List.getElem_range
abbrev pd:=@List.pairwise_iff_getElem
abbrev lY:=@List.mem_erase_of_ne
abbrev fa:=@List.any_eq_true
abbrev dM:=@List.cons_append
abbrev dC:=@Nat.min_eq_left
abbrev fZ:=@List.pairwise_cons
abbrev mY:=@List.getElem_set_self
abbrev re:=@List.nodup_iff_pairwise_ne
abbrev p5:=@List.length_eq_zero_iff
abbrev nZ:=@Array.length_toList
abbrev dG:=@List.length_set
abbrev fG:=@List.getElem_set
abbrev mK:=@List.pairwise_append
abbrev pn:=@List.length_pos_of_mem
abbrev ml:=@List.set_cons_zero
abbrev sE:=@List.mem_zipIdx_iff_getElem?
abbrev mP:=@List.drop_succ_cons
abbrev dY:=@List.map_set
abbrev nD:=@List.getElem_set_ne
abbrev n8:=@List.getElem?_map
abbrev tJ:=@Array.getElem?_setIfInBounds_ne
abbrev pf:=@List.mem_cons_of_mem
abbrev nC:=@List.mem_filterMap
abbrev ri:=@List.getElem_cons_succ
abbrev fA:=@List.drop_zero
abbrev ld:=@Bool.or_eq_true
abbrev nF:=@Nat.mul_le_mul_left
abbrev p8:=@List.replicate_succ
abbrev ni:=@List.ext_getElem?
abbrev mV:=@List.pairwise_map
abbrev wM:=@List.countP_eq_length_filter
abbrev mo:=@List.nil_append
abbrev pu:=@List.set_cons_succ
abbrev m8:=@List.cons.injEq
abbrev pY:=@Bool.or_eq_false_iff
abbrev dE:=@Nat.lt_or_ge
abbrev n6:=@List.not_mem_nil
abbrev pE:=@List.take_succ_cons
abbrev nE:=@Nat.lt_trichotomy
abbrev pw:=@List.flatten_cons
abbrev ro:=@List.takeWhile_cons
abbrev sg:=@List.length_filter_le
abbrev wG:=@List.filter_append
abbrev sY:=@List.length_filterMap_le
abbrev nc:=@List.tail_cons
abbrev pG:=@List.length_range
abbrev iT:=@List.zipWith_append
abbrev sO:=@List.drop_of_length_le
abbrev tr:=@List.set_getElem_self
abbrev sT:=@List.countP_le_length
abbrev AT:=@List.range_succ
abbrev so:=@List.nodup_append
abbrev pk:=@Bool.true_and
abbrev mn:=@Nat.add_mul
abbrev pA:=@Bool.not_true
abbrev oo:=@Nat.add_sub_cancel_left
abbrev wI:=@List.filterMap_cons
abbrev rV:=@Bool.not_eq_true
abbrev rB:=@List.append_inj'
abbrev ij:=@List.getElem_replicate
abbrev eN:=@List.filter_eq_nil_iff
abbrev sP:=@List.mem_cons_self
abbrev Cg:=@List.dropLast_concat_getLast
abbrev ik:=@Bool.and_eq_false_iff
abbrev nI:=@List.map_map
abbrev oj:=@List.eq_nil_or_concat
abbrev ii:=@List.concat_eq_append
abbrev TK:=@Array.getElem?_modify
abbrev iJ:=@List.filterMap_append
abbrev iQ:=@List.length_replicate
abbrev pT:=@Bool.false_or
abbrev we:=@List.map_take
abbrev tA:=@Bool.not_eq_true'
abbrev sS:=@List.getElem?_set
abbrev wQ:=@Bool.not_eq_false
end
section
variable {s b:ByteArray}{i n:Nat}{p:Int->Bool}
def xg(c:Int):Bool:=decide (97<=c)&&decide (c<=122)
def qA(c:Int):Bool:=decide (65<=c)&&decide (c<=90)
def yY(c:Int):Bool:=decide (48<=c)&&decide (c<=57)
def qU(c:Int):Bool:=c == 32||c == 10
def Ve(c:Int):Bool:=xg c||qA c||yY c
def fE(c:Int):Int:=if c=40 then 4 else if c=41 then 5 else if c=44 then 6 else if c=46 then 7 else if c=33 then 8 else 0
def xy(a b:Int):Int:=if xg a then 1 else if qA a then 2 else if yY a then 3 else if a=58/\b=45 then 9 else fE a
def UC(s:ByteArray)(i:Nat):Int:=if h:i<s.q then(s[i].D:Int) else 0
def qK(h:i<s.q):UC s i=(s[i].D:Int):=by simp[UC,h]
def pR(h:¬i<s.q):UC s i=0:=by simp[UC,h]
def fV(s:Λ)(i:Nat):0<=UC s i/\UC s i<256:=by
 unfold UC;split;rename_i h;have:=s[i].toNat_lt;omega;omega
def yN(p:Int->Bool)(s:ByteArray)(i:Nat):Nat:=if h:i<s.q then(if p (UC s i) then yN p s (i+1) else i) else i
 termination_by s.q-i
def fS(h:¬i<s.q):yN p s i=i:=by rw[yN];simp[h]
def p6(h:p (UC s i)=false):yN p s i=i:=by rw[yN];simp[h]
def np(h:i<s.q)(a:p (UC s i)=true):yN p s i=yN p s (i+1):=by
 conv=>lhs;rw[yN]
 simp[h,a]
def FW(p:Int->Bool)(s:Λ):∀(n i:Nat),s.q-i<=n->i<=yN p s i/\(i<=s.q->yN p s i<=s.q):=by
 intro n;induction n with
 |zero=>intro i h;rw[fS η];omega
 |succ n d=>
  intro i h;by_cases c:i<s.q;cases a:p (UC s i);rw[p6 a];omega;rw[np c a];have:=d (i+1) η;omega;rw[fS c];omega
def NJ(p:Int->Bool)(s:Λ)(i:Nat):i<=yN p s i:=(FW p s _ i (s_ _)).1
def P7(p:Int->Bool)(s:Λ)(i:Nat)(h:i<=s.q):yN p s i<=s.q:=(FW p s _ i (s_ _)).2 h
def y7(s:ByteArray)(i:Nat)(k:Int):Nat:=if k=0 then i else if k=9 then i+2 else if k=1∨k=2 then yN Ve s i else if k=3 then yN yY s i else i+1
def wH(s:Λ)(i:Nat)(k:Int)(j:i<s.q)(a:xy (UC s i) (UC s (i+1))=k)(d:k≠0):i<y7 s i k/\y7 s i k<=s.q:=by
 have c:∀p:Int->Bool,p (UC s i)=true->i<yN p s i/\yN p s i<=s.q:=λp e=>by
  rw[np j e];have:=NJ p s (i+1);have:=P7 p s (i+1) η;omega
 unfold xy at a;unfold y7;split at a;rename_i h;subst a;simp;exact c Ve (by simp[Ve,h]);split at a;rename_i h;subst a;simp;exact c Ve (by simp[Ve,h]);split at a;rename_i h;subst a;simp;exact c yY h;split at a;rename_i h;subst a;simp;have:i+1<s.q:=by
  false_or_by_contra;rename_i f;rw[pR f] at h;omega
 omega;have g:k≠9/\k≠1/\k≠2/\k≠3:=by subst a;unfold fE;(repeat' split)<;>simp
 simp[d,g];omega
def UJ:Nat->ByteArray->Nat->Option (List (Int×ByteArray))
 |0,_,_=>Z []
 |n+1,s,i=>
  if i<s.q then
   if qU (UC s i) then UJ n s (i+1)
   else if xy (UC s i) (UC s (i+1))=0 then Y
   else if 6<y7 s i (xy (UC s i) (UC s (i+1)))-i then Y
   else(UJ n s (y7 s i (xy (UC s i) (UC s (i+1))))).w ((xy (UC s i) (UC s (i+1)),s.extract i (y7 s i (xy (UC s i) (UC s (i+1)))))::·)
  else Z []
def UG(s:ByteArray):Option (List (Int×ByteArray)):=UJ s.q s 0
def sH(h:¬i<s.q):UJ n s i=Z []:=by cases n<;>simp[UJ,h]
def ed(h:i<s.q)(a:qU (UC s i)=true):UJ (n+1) s i=UJ n s (i+1):=by simp[UJ,h,a]
def eX(h:i<s.q)(c:qU (UC s i)=false)(a:xy (UC s i) (UC s (i+1))=0):UJ (n+1) s i=none:=by simp[UJ,h,c,a]
def ek{k:Int}(h:i<s.q)(d:qU (UC s i)=false)(a:xy (UC s i) (UC s (i+1))=k)(c:6<y7 s i k-i):UJ (n+1) s i=none:=by
 subst a;simp[UJ,h,d,c]
def eb{k:Int}(h:i<s.q)(e:qU (UC s i)=false)(c:xy (UC s i) (UC s (i+1))=k)(a:k≠0)(d:¬6<y7 s i k-i):
  UJ (n+1) s i=(UJ n s (y7 s i k)).w ((k,s.extract i (y7 s i k))::·):=by
 subst c;simp[UJ,h,e,d,a]
def tH{α:Type}(o:Option (List α))(a:List α)(x:α):(o.w (x::·)).w (a++·)=o.w ((a++[x])++·):=by cases o<;>simp
def OU(s:Λ):∀(n i:Nat) (r:List UInt8),s.q-i<=n->ByteArray.toList.loop s i r=r.reverse++s.data.v.drop i:=by
 intro n;induction n with
 |zero=>
  intro i r h;rw[ByteArray.toList.loop,if_neg η,B_ (by rw[p_];show s.q<=i;omega),M_]
 |succ n d=>
  intro i r h;rw[ByteArray.toList.loop];split;rename_i a;rw[d (i+1) _ η];have c:i<s.data.v.j:=by rw[p_];exact a
  rw[List.drop_eq_getElem_cons c];simp[ByteArray.get!,a];rw[B_ (by rw[p_];show s.q<=i;omega),M_]
def ku(s:Λ):s.v=s.data.v:=by
 rw[ByteArray.toList,OU s _ 0 [] (s_ _)];simp
def VJ{a:Λ}(h:a.v=b.v):a=b:=by
 rw[ku,ku] at h;exact Go.WideShapes.bytes_inj h
def Gk(a b:Λ):(a.v == b.v)=decide (a=b):=by
 by_cases h:a=b;subst h;simp;rw[decide_eq_false h,beq_eq_false_iff_ne];exact λk=>h (VJ k)
def qH{a:Λ}(h:a=b):(a.v == b.v)=true:=by rw[Gk];simpa using h
def vn{a:Λ}(h:a≠b):(a.v == b.v)=false:=by rw[Gk];simpa using h
def zV(t:ByteArray):Bool:=qA (UC t 0)
def yr(t:ByteArray):κ->Bool
 |[]=>false
 |x::r=>decide (x=t)||yr t r
def qq{t:Λ}:∀{vs:List Λ},yr t vs=true↔t∈vs
 |[]=>by simp[yr]
 |x::r=>by simp only[yr,Bool.or_eq_true,decide_eq_true_eq,List.mem_cons,qq (vs:=r)];constructor<;>(rintro(h|h)<;>simp[h])
def sZ{t:Λ}{vs:List Λ}:yr t vs=false↔t∉vs:=by rw[←qq];simp
def km(vs:κ)(t:ByteArray):κ:=if zV t&&!yr t vs then vs++[t] else vs
def xH(vs args:κ):κ:=args.H km vs
def OK(vs:List Λ)(t:Λ):(km vs t).j<=vs.j+1:=by unfold km;split<;>simp
def rf(args:List Λ):∀vs:List Λ,(xH vs args).j<=vs.j+args.j:=by
 induction args with
 |nil=>intro vs;simp[xH]
 |cons a r c=>intro vs;have:=c (km vs a);have:=OK vs a;simp only[xH,List.foldl_cons,List.length_cons] at *;omega
end
section
open Go.Proofs.Tryz Go.RowKit
def iD(c:Int)(w:U):
  c_ e_ 98 #[.int .u8 c] w λe a=>e=ε (.i (qU c))/\a=w:=by
 go_enter func98,ntmps98;go_wp2
 all_goals go_ret
 all_goals exact⟨by simp[qU, *],rfl⟩
def Dy(c:Int)(w:U):
  c_ e_ 173 #[.int .u8 c] w λe a=>e=ε (.i (xg c))/\a=w:=by
 go_enter func173,ntmps173;go_wp2
 all_goals go_ret
 all_goals exact⟨by simp[xg, *]<;>omega,rfl⟩
def C9(c:Int)(w:U):
  c_ e_ 174 #[.int .u8 c] w λe a=>e=ε (.i (qA c))/\a=w:=by
 go_enter func174,ntmps174;go_wp2
 all_goals go_ret
 all_goals exact⟨by simp[qA, *]<;>omega,rfl⟩
def wh(c:Int)(w:U):
  c_ e_ 175 #[.int .u8 c] w λe a=>e=ε (.i (yY c))/\a=w:=by
 go_enter func175,ntmps175;go_wp2
 all_goals go_ret
 all_goals exact⟨by simp[yY, *]<;>omega,rfl⟩
def Bt(c:Int)(w:U):
  c_ e_ 198 #[.int .u8 c] w λe a=>e=ε (.i (Ve c))/\a=w:=by
 go_enter func198,ntmps198;go_wp2_with (first|(go_at_call 173;refine(Dy _ _).y ?_;rintro e a ⟨rfl,rfl⟩)|(go_at_call 174;refine(C9 _ _).y ?_;rintro e a ⟨rfl,rfl⟩)|(go_at_call 175;refine(wh _ _).y ?_;rintro e a ⟨rfl,rfl⟩))
 all_goals go_ret
 all_goals exact⟨by simp[Ve, *],rfl⟩
def Ew(s:Λ)(i:Int)(w:U)(b:0<=i)(_:s.q<=500):
  c_ e_ 139 #[.g s,ι i] w λe a=>e=ε (.int .u8 (UC s i.D))/\a=w:=by
 obtain⟨i,rfl⟩:=z_ b;rw[Int.toNat_natCast];by_cases h:i<s.q
 .rw[qK h];go_enter func139,ntmps139;go_wp2
  all_goals go_ret
  all_goals exact⟨rfl,rfl⟩
 rw[pR h];go_enter func139,ntmps139;go_wp2
 all_goals go_ret
 all_goals exact⟨rfl,rfl⟩
def Tj(c:Int)(w:U):
  c_ e_ 176 #[.int .u8 c] w λe a=>e=ε (ι (fE c))/\a=w:=by
 go_enter func176,ntmps176;go_wp2
 all_goals go_ret
 all_goals go_light
 all_goals exact⟨by simp_all [fE],rfl⟩
def Iv(a b:Int)(w:U):
  c_ e_ 140 #[.int .u8 a,.int .u8 b] w λe c=>e=ε (ι (xy a b))/\c=w:=by
 go_enter func140,ntmps140;go_wp2_with (first|(go_at_call 173;refine(Dy _ _).y ?_;rintro e c ⟨rfl,rfl⟩)|(go_at_call 174;refine(C9 _ _).y ?_;rintro e c ⟨rfl,rfl⟩)|(go_at_call 175;refine(wh _ _).y ?_;rintro e c ⟨rfl,rfl⟩)|(go_at_call 176;refine(Tj _ _).y ?_;rintro e c ⟨rfl,rfl⟩))
 all_goals go_ret
 all_goals go_light
 all_goals exact⟨by first|(simp_all [xy];done)|(simp_all [xy,xg,qA,yY];done),rfl⟩
def SP(s:Λ)(i:Nat)(w:U)(hs:s.q<=500)(g:i<=s.q):
  c_ e_ 177 #[.g s,ι i] w λe d=>e=ε (ι (yN Ve s i))/\d=w:=by
 go_enter func177,ntmps177;go_wp2;go_loop [5] (λt=>∃k:Nat,k<=s.q/\t=ι k/\X (yN Ve s i=yN Ve s k)) (λt=>s.q-(d_ t).D);exact⟨i,g,rfl,rfl⟩;obtain⟨k,h,rfl,H⟩:=hrel;by_cases a:k<s.q
 .have f:=qK a;cases c:Ve (UC s k)
  .have b:X (yN Ve s i=k):=by rw[X.out H,p6 c];rfl
   rw[f] at c;go_wp2_with (go_at_call 198;refine(Bt _ _).y ?_;rintro e d ⟨rfl,rfl⟩)
   go_ret;exact⟨by rw[X.out b];rfl,rfl⟩
  have b:X (yN Ve s i=yN Ve s (k+1)):=by rw[X.out H,np a c];rfl
  rw[f] at c;go_wp2_with (go_at_call 198;refine(Bt _ _).y ?_;rintro e d ⟨rfl,rfl⟩)
  go_round;exact⟨k+1,η,ξ,b⟩;simp[d_];omega
 have b:X (yN Ve s i=k):=by rw[X.out H,fS a];rfl
 go_wp2_with (go_at_call 198;refine(Bt _ _).y ?_;rintro e d ⟨rfl,rfl⟩)
 go_ret;exact⟨by rw[X.out b];rfl,rfl⟩
def Q9(s:Λ)(i:Nat)(w:U)(hs:s.q<=500)(g:i<=s.q):
  c_ e_ 178 #[.g s,ι i] w λe d=>e=ε (ι (yN yY s i))/\d=w:=by
 go_enter func178,ntmps178;go_wp2;go_loop [5] (λt=>∃k:Nat,k<=s.q/\t=ι k/\X (yN yY s i=yN yY s k)) (λt=>s.q-(d_ t).D);exact⟨i,g,rfl,rfl⟩;obtain⟨k,h,rfl,H⟩:=hrel;by_cases a:k<s.q
 .have f:=qK a;cases c:yY (UC s k)
  .have b:X (yN yY s i=k):=by rw[X.out H,p6 c];rfl
   rw[f] at c;go_wp2_with (go_at_call 175;refine(wh _ _).y ?_;rintro e d ⟨rfl,rfl⟩)
   go_ret;exact⟨by rw[X.out b];rfl,rfl⟩
  have b:X (yN yY s i=yN yY s (k+1)):=by rw[X.out H,np a c];rfl
  rw[f] at c;go_wp2_with (go_at_call 175;refine(wh _ _).y ?_;rintro e d ⟨rfl,rfl⟩)
  go_round;exact⟨k+1,η,ξ,b⟩;simp[d_];omega
 have b:X (yN yY s i=k):=by rw[X.out H,fS a];rfl
 go_wp2_with (go_at_call 175;refine(wh _ _).y ?_;rintro e d ⟨rfl,rfl⟩)
 go_ret;exact⟨by rw[X.out b];rfl,rfl⟩
def Dc(s:Λ)(i:Nat)(k:Int)(w:U)(hs:s.q<=500)(b:i<=s.q):
  c_ e_ 141 #[.g s,ι i,ι k] w λe a=>e=ε (ι (y7 s i k))/\a=w:=by
 go_enter func141,ntmps141;go_wp2_with (first|(go_at_call 177;refine(SP _ _ _ hs b).y ?_;rintro e a ⟨rfl,rfl⟩)|(go_at_call 178;refine(Q9 _ _ _ hs b).y ?_;rintro e a ⟨rfl,rfl⟩))
 all_goals go_ret
 all_goals go_light
 all_goals exact⟨by simp_all [y7],rfl⟩
def OZ(s:Λ)(i:Nat)(w:U)(hs:s.q<=500)(f:i<s.q)(b:xy (UC s i) (UC s (i+1))=0):
  c_ e_ 99 #[.g s,ι i] w λe a=>e=ε (.agg #[ι 0,.g g_])/\μ w a:=by
 have d:y7 s i 0=i:=rfl;have c:((i:Int)+1).D=i+1:=η;go_enter func99,ntmps99;go_wp2_with (first|(go_at_call 139;refine(Ew s _ _ η hs).y ?_;rintro e a ⟨rfl,rfl⟩)|(go_at_call 140;refine(Iv _ _ _).y ?_;rintro e a ⟨rfl,rfl⟩)|(go_at_call 141;refine(Dc s i _ _ hs η).y ?_;rintro e a ⟨rfl,rfl⟩))
 go_returns
 exact⟨rfl,γ⟩
def KD(s:Λ)(i:Nat)(k:Int)(w:U)(hs:s.q<=500)(q:i<s.q)(n:xy (UC s i) (UC s (i+1))=k)
  (m:i<y7 s i k) (f:y7 s i k<=s.q):
  c_ e_ 99 #[.g s,ι i] w λe b=>e=ε (.agg #[ι k,.g (s.extract i (y7 s i k))])/\μ w b:=by
 have p:((i:Int)+1).D=i+1:=η;go_enter func99,ntmps99;go_wp2_with (first|(go_at_call 139;refine(Ew s _ _ η hs).y ?_;rintro e b ⟨rfl,rfl⟩)|(go_at_call 140;refine(Iv _ _ _).y ?_;rintro e b ⟨rfl,rfl⟩)|(go_at_call 141;refine(Dc s i _ _ hs η).y ?_;rintro e b ⟨rfl,rfl⟩)|(refine Nn _ rfl (.tmp 41) 9 238 5 rfl underlying9 underlying238 underlying5 _ rfl ?_;intro l h d a;obtain⟨c,g⟩:=LB a;have j:=a.q;simp only[q_] at j)|(refine T5 _ rfl (.tmp 42) 238 9 5 rfl underlying238 underlying5 underlying9 _ _ _ rfl ?_ ?_;(first|exact d|fail)))
 have o:μ w h:=U6 zQ a;exact zP (v:=.agg #[ι k,.g (s.extract i (y7 s i k))]) (by simp[results,results99,go_sem,c]) rfl ⟨rfl,γ⟩
def kC(l:List (Int×ByteArray)):List Value:=l.flatMap λx=>[ι x.1,.g x.2]
def K6(l:List (Int×Λ))(k:Int)(t:Λ):kC (l++[(k,t)])=kC l++[ι k,.g t]:=by simp[kC]
def TX:(e_.info? 182).map (λi=>(i.zero,i.q,i.bytes))=Z (Z (.agg #[ι 0,.g g_]),2,24):=χ
def wl(s:ByteArray)(w:U)(e:Ending)(w':U):Prop:=
 μ w w'/\match UG s with
  |none=>e=ε (.B #[ν,.i false])
  |some l=>∃v,e=ε (.B #[v,.i true])/\w'.r w.o.q 182 2 v l.j (kC l)/\l.j<=s.q
def Ec{s:Λ}{w w':U}(h:X (UG s=Y))(b:μ w w'):wl s w (ε (.B #[ν,.i false])) w':=by
 have a:UG s=none:=h;unfold wl;rw[a];exact⟨b,rfl⟩
def Kc{s:Λ}{w w':U}{v:O}{l:List (Int×Λ)}(h:X (UG s=Z l))(d:μ w w')(b:w'.r w.o.q 182 2 v l.j (kC l))(a:l.j<=s.q):
  wl s w (ε (.B #[v,.i true])) w':=by
 have c:UG s=Z l:=h;unfold wl;rw[c];exact⟨d,v,rfl,b,a⟩
def Fx(s:Λ)(w:U)(hs:s.q<=500):
  c_ e_ 59 #[.g s] w λe z=>wl s w e z:=by
 obtain⟨S,V,C,G,A⟩:=info_parts TX;go_enter func59,ntmps59;go_wp2;go_loopw [4,5] (λv t wr=>∃(k:Nat) (a:List (Int×Λ)) (m:Nat),k<=s.q/\t=ι k/\s.q-k<=m/\X (UG s=(UJ m s k).map (a++·))/\a.j<=k ∧
   wr.r w.o.q 182 2 v a.j (kC a)/\μ w wr) (λ_ t _=>s.q-(d_ t).D)
 exact⟨0,[],s.q,zs _,rfl,η,(by simp[UG,X]),ze _,xj _ _ _ _,zn _ _⟩;obtain⟨k,a,m,W,rfl,hm,H,Q,i,c⟩:=hrel;by_cases b:k<s.q
 .have o:=qK b;obtain⟨m,rfl⟩:∃T,m=T+1:=⟨m-1,η⟩;cases p:qU (UC s k)
  .by_cases h:xy (UC s k) (UC s (k+1))=0
   .have j:X (UG s=Y):=by rw[X.out H,eX b p h];simp[X]
    have q:=OZ s k wr hs b h;rw[o] at p;clear o H h;go_wp2_with (first|(go_at_call 98;refine(iD _ _).y ?_;rintro e z ⟨rfl,rfl⟩)|(go_at_call 99;refine q.y ?_;rintro e F ⟨rfl,g⟩;clear q;have r:=U6 c g;have u:=r.q))
    go_ret2
    exact Ec j γ
   obtain⟨f,d⟩:∃f,xy (UC s k) (UC s (k+1))=f:=⟨_,rfl⟩;have l:f≠0:=by rw[←d];exact h
   obtain⟨K,D⟩:=wH s k f b d l;have q:=KD s k f wr hs b d K D;by_cases P:6<y7 s k f-k
   .have j:X (UG s=Y):=by rw[X.out H,ek b p d P];simp[X]
    rw[o] at p;clear o H h d;generalize y7 s k f=n at *;have I:(s.extract k n).q=n-k:=by rw[l_];omega
    generalize s.extract k n=N at *;have y:(f == 0)=false:=by simpa using l
    go_wp2_with (first|(go_at_call 98;refine(iD _ _).y ?_;rintro e z ⟨rfl,rfl⟩)|(go_at_call 99;refine q.y ?_;rintro e F ⟨rfl,g⟩;clear q;have r:=U6 c g;have u:=r.q))
    go_ret2
    exact Ec j γ
   have j:X (UG s=(UJ m s (y7 s k f)).map ((a++[(f,s.extract k (y7 s k f))])++·)):=by rw[X.out H,eb b p d l P,tH];rfl
   rw[o] at p;clear o H h d;generalize y7 s k f=n at *;have I:(s.extract k n).q=n-k:=by rw[l_];omega
   generalize s.extract k n=N at *;have y:(f == 0)=false:=by simpa using l
   go_wp2_with (first|(go_at_call 98;refine(iD _ _).y ?_;rintro e z ⟨rfl,rfl⟩)|(go_at_call 99;refine q.y ?_;rintro e F ⟨rfl,g⟩;clear q;have r:=U6 c g;have u:=r.q;have L:=zy i g)|(at_builtin;refine kU F _ _ _ rfl (.tmp 29) (.tmp 31) 118 rfl w.o.q 182 S _ 2 24 underlying118 V C G A rfl θ _ _ _ rfl L zQ _ _ rfl ζ rfl a_ η η η ?_;intro v' w2 B J M E R x;simp only[q_] at M E x))
   go_roundw;exact⟨n,a++[(f,N)],m,η,ξ,η,j,by simp;omega,by rw[yB,K6];exact B,r.A J⟩;simp[d_];omega
  have j:X (UG s=(UJ m s (k+1)).map (a++·)):=by rw[←ed b p];exact H
  rw[o] at p;clear o H;go_wp2_with (go_at_call 98;refine(iD _ _).y ?_;rintro e z ⟨rfl,rfl⟩)
  go_roundw;exact⟨k+1,a,m,η,ξ,η,j,η,i,c⟩;simp[d_];omega
 have j:X (UG s=Z a):=by rw[X.out H,sH b];simp[X]
 clear H;go_wp2;go_ret2
 exact Kc j c i η
end
section
open Go.RowKit
variable {lo:Nat}{t:ByteArray}{r base n b:Nat}{w w':U}{v wv:O}{xs:List O}{c:Array O}{l:κ}
abbrev UA:=Int×ByteArray
abbrev Δ:=List UA
structure zk where
 i:Bool
 o:ByteArray
 k:κ
abbrev Ω:=List zk
structure zd where
 g:zk
 d:List zk
abbrev Ξ:=List zd
def VE(k:Int):Bool:=k == 1||k == 3||k == 2
def US:List UA->Int
 |[]=>0
 |x::_=>x.1
def y5:List UA->Option (κ×List UA)
 |[]=>Y
 |[x]=>if VE x.1 then Z ([x.2],[]) else Y
 |x::y::r=>if VE x.1 then(if y.1=6 then(y5 r).map λz=>(x.2::z.1,z.2) else Z ([x.2],y::r)) else Y
def ST{k:Int}{r:Δ}(h:VE k=false):y5 ((k,t)::r)=none:=by cases r<;>simp[y5,h]
def IG{k:Int}{r:Δ}(h:VE k=true)(a:US r≠6):y5 ((k,t)::r)=Z ([t],r):=by
 rcases r with _|⟨y,r⟩;simp[y5,h];simp only[US] at a;simp[y5,h,a]
def RT{k:Int}{r:Δ}(h:VE k=true)(a:US r=6):y5 ((k,t)::r)=(y5 r.tail).map λz=>(t::z.1,z.2):=by
 rcases r with _|⟨y,r⟩;simp[US] at a;simp only[US] at a;simp[y5,h,a]
def x6(r:List UA):Option (zk×List UA):=
 if US r=1 then
  if US r.tail=4 then
   match y5 r.tail.tail with
   |none=>Y
   |some (d,a)=>if US a=5 then Z (⟨false,(r.headD (0,g_)).2,d⟩,a.tail) else Y
  else Z (⟨false,(r.headD (0,g_)).2,[]⟩,r.tail)
 else Y
def vm(r:List UA):Option (zk×List UA):=
 if US r=8 then(x6 r.tail).map λz=>({z.1 with i:=true},z.2) else x6 r
structure UF (r:Nat) (w w':U):Prop where
 os:w'.os=w.os
 tape:w'.tape=w.tape
 output:w'.output=w.output
 q:w.o.q<=w'.o.q
 block:∀k,k<w.o.q->k≠r->w'.o[k]?=w.o[k]?
def UF.refl(r:Nat)(w:U):UF r w w:=⟨rfl,rfl,rfl,ze _,λ_ _ _=>rfl⟩
def UF.A{r:Nat}{a b c:U}(h:UF r a b)(k:UF r b c):UF r a c:=
 ⟨k.os.A h.os,k.tape.A h.tape,k.output.A h.output,zX h.q k.q,λi e d=>(k.block i (yh e h.q) d).A (h.block i e d)⟩
def UF.of(h:μ w w'):UF r w w':=⟨h.os,h.tape,h.output,h.q,λk a _=>h.block k a⟩
def UF.u{B:Nat}(h:UF r w w')(d:B<=r)(e:B<=w.o.q):Below B w w':=⟨h.os,h.tape,h.output,h.q,λk a=>h.block k η η⟩
def UF.x{r:Nat}{a w:U}(h:UF r a w)(o:Nat)(u:O):UF r a (w.x (ω r o) u):=
 h.A ⟨rfl,rfl,rfl,by simp[o_],λ_ _ d=>u_ _ _ _ _ d⟩
def UF.drew{r:Nat}{a w:U}(h:UF r a w):UF r a w.drew:=⟨h.os,h.tape,h.output,h.q,h.block⟩
def UF.drewN{r:Nat}{a w:U}(h:UF r a w)(n:Nat):UF r a (w.drewN n):=h.A (UF.of (zG (zn _ _) n))
def UF.C{r:Nat}{a w:U}(h:UF r a w)(o:Obj):UF r a (w.C o):=h.A (UF.of ((zn _ _).C (ze _) o))
def UF.setNew{r:Nat}{a w:U}(h:UF r a w){p:Addr}(f:a.o.q<=p.block)(u:O):UF r a (w.x p u):=
 ⟨h.os,h.tape,h.output,by simp[o_];exact h.q,λk d e=>(u_ _ _ _ _ η).A (h.block k d e)⟩
abbrev xR:=@UF.refl
abbrev xN:=@UF.drewN
abbrev xA:=@UF.C
abbrev xD:=@UF.drew
abbrev xS:=@UF.x
abbrev xT:=@UF.setNew
def ψ{P:Prop}(h:P:=by repeat'(first|with_reducible(first|apply xR|assumption|apply xN|apply xA|apply xD|apply xS|apply xT)|go_size)):P:=h
def xJ{e:f_}{a:Nat}(h:w.r base e a v n xs)(p:UF r w w')
  {c:Array O} {T:f_} {f:Nat×Nat} (i:w.o[r]?=Z (.E c T f)) (x:T≠e):w'.r base e a v n xs:=by
 obtain⟨q,m⟩:=h;refine⟨q,?_⟩;rcases m with m|⟨g,k,j,s,y,d,u⟩;exact zh m;refine zg ⟨g,k,j,s,y,?_,u⟩;rw[p.block g (kB.1 d).1 (λo=>by subst o;rw[d] at i;simp at i;exact x i.2.1.z)];exact d
def zq{e:f_}{d:Nat}(h:w.r base e d v n xs):∃i a,v=.k i n a:=by
 obtain⟨_,⟨f,k⟩|⟨g,a,j,f,_⟩⟩:=h;exact⟨Y,0,by rw[f,k]⟩;exact⟨_,a,f⟩
def yt{e:f_}{d:Nat}(h:w.r base e d v n xs)(A:0<n):
  ∃g a,v=.k (Z (δ g)) n a/\base<=g/\g<w.o.q/\∀j u,xs[j]?=Z u->w.p (ω g j)=Z u:=by
 obtain⟨z,⟨k,y⟩|⟨g,a,q,k,x,i,s,m,o,p⟩⟩:=h;omega;refine⟨g,a,k,x,(kB.1 i).1,λj u f=>?_⟩;unfold C_;rw[i];simp;rw[←p,mH] at f;split at f;simpa using f;simp at f
def U3(w:U)(b:Nat)(c:Array O)(T:f_):Prop:=w.o[b]?=Z (.E c T (0,0))
def U3.lt{T:f_}(h:U3 w b c T):b<w.o.q:=(kB.1 h).1
def U3.new(w:U)(c:Array O)(T:f_):U3 (w.C (.E c T)) w.o.q c T:=by unfold U3;show(w.o.push _)[w.o.q]?=_;simp
def U3.u{T:f_}(h:U3 w b c T)(a:μ w w'):U3 w' b c T:=by have:=h.lt;unfold U3 at *;rw[a.block b this];exact h
def U3.but{T:f_}(h:U3 w b c T)(d:UF r w w')(a:b≠r):U3 w' b c T:=by have:=h.lt;unfold U3 at *;rw[d.block b this a];exact h
def U3.H{T:f_}(h:U3 w b c T):(∀o,w.p (ω b o)=c[o]?)/\(∀o,w.frozen? (ω b o)=false):=by
 unfold U3 at h;exact⟨λo=>by unfold C_;rw[h];simp,λo=>by unfold U.frozen?;rw[h];simp⟩
def U3.I{T:f_}(h:U3 w b c T):(∀o,w.p (ω b o)=c[o]?)/\(∀o,w.frozen? (ω b o)=false)/\b<w.o.q:=⟨h.H.1,h.H.2,h.lt⟩
def U7(lo:Nat)(w:U)(v:O)(l:κ):Prop:=w.r lo 9 1 v l.j (l.map j_)
def yq{a:Nat}{e:f_}{d:Nat}(h:w.r b e d v n xs)(p:a<=b):w.r a e d v n xs:=by
 obtain⟨k,j⟩:=h;refine⟨k,?_⟩;rcases j with j|⟨g,i,f,m,q,o⟩;exact zh j;exact zg ⟨g,i,f,m,η,o⟩
def U7.low{a:Nat}(h:U7 b w v l)(d:a<=b):U7 a w v l:=yq h d
def U7.nil(w:U):U7 lo w (ν) []:=xj _ _ _ _
def U7.qm(h:U7 lo w v l):∃d a,v=.k d l.j a:=zq h
def U7.u(h:U7 lo w v l)(a:μ w w'):U7 lo w' v l:=zy h a
def U7.but(h:U7 lo w v l)(e:UF r w w'){T:f_}{f:Nat×Nat}(a:w.o[r]?=Z (.E c T f))(d:T≠9):U7 lo w' v l:=by
 exact xJ h e a d
structure Rd (w:U) (r:Nat) (wv:O) (l rest:List UA):Prop where
 box:∃p:Nat,p<=l.j/\rest=l.drop p/\w.o[r]?=Z (.E #[wv,ι p] 185 (0,0))
 words:∃base,w.r base 182 2 wv l.j (kC l)
def Rd.cell{l rest:Δ}(h:Rd w r wv l rest):∃c f,w.o[r]?=Z (.E c 185 f):=by
 obtain⟨p,_,_,a⟩:=h.box;exact⟨_,_,a⟩
def Rd.lt{l rest:Δ}(h:Rd w r wv l rest):r<w.o.q:=by
 obtain⟨p,_,_,a⟩:=h.box;exact(kB.1 a).1
def Rd.u{l rest:Δ}(h:Rd w r wv l rest)(d:μ w w'):Rd w' r wv l rest:=by
 have a:=h.lt;obtain⟨⟨p,e,i,f⟩,b,g⟩:=h;exact⟨⟨p,e,i,by rw[d.block r a];exact f⟩,b,zy g d⟩
def PY(l:Δ)(p:Nat)(k:Int)(t:Λ)(r:Δ)(h:(k,t)::r=l.drop p):(kC l)[p*2]?=Z (ι k)/\(kC l)[p*2+1]?=Z (.g t):=by
 induction l generalizing p with
 |nil=>simp at h
 |cons x l a=>
  rcases p with _|p;simp at h;obtain⟨rfl,_⟩:=h;simp[kC];have:=a p (by simpa using h);simp only[kC,uZ] at this ⊢;rw[show(p+1)*2=p*2+1+1 from by omega];simpa using this
def Rd.view{l rest:Δ}(h:Rd w r wv l rest):∃(p:Nat) (d:Option Addr) (cap:Nat),p<=l.j/\rest=l.drop p/\wv=.k d l.j cap ∧
  w.o[r]?=Z (.E #[wv,ι p] 185 (0,0))/\w.p (δ r)=Z wv/\w.p (ω r 1)=Z (ι p)/\(∀o,w.frozen? (ω r o)=false) ∧
  (∀k t i,rest=(k,t)::i->∃g,d=Z (δ g)/\g<w.o.q/\p<l.j/\w.p (ω g (p*2))=Z (ι k)/\w.p (ω g (p*2+1))=Z (.g t)):=by
 obtain⟨⟨p,y,f,e⟩,b,m⟩:=h;obtain⟨d,cap,q⟩:=zq m;refine⟨p,d,cap,y,f,q,e,by unfold C_;rw[e];simp,by unfold C_;rw[e];simp,λo=>by unfold U.frozen?;rw[e];simp,?_⟩;intro k t i j;have A:p<l.j:=by
  rcases dE p l.j with h|h;exact h;rw[uk h] at f;rw[f] at j;cases j
 obtain⟨g,u,a,_,B,s⟩:=yt m η;rw[q] at a;simp at a;obtain⟨x,z⟩:=PY l p k t i (by rw[←j,f]);exact⟨g,a.1,B,A,s _ _ x,s _ _ z⟩
def Rd.keep{x z:U}{l a rest:Δ}(u:Rd w r wv l a)(h:Rd x r wv l rest)(q:Below w.o.q x z):Rd z r wv l rest:=by
 have i:=u.lt;obtain⟨_,I,_,k⟩:=u;obtain⟨⟨p,A,H,F⟩,b,G,m⟩:=h;refine⟨⟨p,A,H,by rw[q.block r i];exact F⟩,b,G,?_⟩;rcases m with m|⟨g,o,j,e,E,C,D⟩;exact zh m;refine zg ⟨g,o,j,e,E,?_,D⟩;rcases k with⟨d,_⟩|⟨B,y,s,d,_,f,_⟩
 rw[d] at e;cases e;rw[d] at e;simp at e;obtain⟨rfl,rfl⟩:=e;rw[q.block B (kB.1 f).1];exact C
def UF.onto{a b c:U}(h:UF r a b)(k:Below a.o.q b c):UF r a c:=
 ⟨k.os.A h.os,k.tape.A h.tape,k.output.A h.output,zX h.q k.q,λi d e=>(k.block i d).A (h.block i d e)⟩
def Rd.next{l rest:Δ}{p:Nat}(a:w.o[r]?=Z (.E #[wv,ι p] 185 (0,0)))(f:p<l.j)(g:rest=l.drop p)
  (e:∃base,w.r base 182 2 wv l.j (kC l)):Rd (w.x (ω r 1) (ι ((p:Int)+1))) r wv l rest.tail:=by
 refine⟨⟨p+1,f,by rw[g,List.tail_drop],?_⟩,?_⟩;simp[o_,t_,a];obtain⟨b,d⟩:=e;exact⟨b,xJ d ((UF.refl r w).x 1 _) a θ⟩
end
section
open Go.Proofs.Tryz Go.RowKit
def Bk(k:Int)(w:U):
  c_ e_ 199 #[ι k] w λe a=>e=ε (.i (VE k))/\a=w:=by
 go_enter func199,ntmps199;go_wp2
 all_goals go_ret
 all_goals go_light
 all_goals exact⟨by simp_all [VE],rfl⟩
def pM(w:U)(r:Nat)(n:O)(l rest:Δ)(h:Rd w r n l rest)(_:l.j<=500):
  c_ e_ 179 #[(π r)] w λe j=>e=ε (.agg #[ι (US rest),.g (rest.headD (0,g_)).2])/\μ w j:=by
 have m:=h.lt;obtain⟨p,z,o,A,f,rfl,b,d,s,y,c⟩:=h.view;rcases rest with _|⟨x,i⟩
 .have a:p=l.j:=by
   have:=congrArg L_ f;simp at this;omega
  subst a;go_enter func179,ntmps179;go_wp2;go_quiet (fail)
  go_wp2;go_returns
  exact⟨rfl,φ⟩
 obtain⟨k,t⟩:=x;obtain⟨g,rfl,B,a,q,u⟩:=c k t i rfl;go_enter func179,ntmps179;go_wp2;go_quiet (fail)
 go_wp2;go_region
 all_goals go_wp2
 all_goals exact zP (v:=.agg #[ι k,.g t]) (by simp[results,results179,go_sem]) rfl ⟨rfl,φ⟩
def Vs(w:U)(r:Nat)(o:O)(l rest:Δ)(k:Int)(h:Rd w r o l rest)(I:l.j<=500)(A:k≠0):
  c_ e_ 143 #[(π r),ι k] w λe y=>e=ε (.i (US rest == k))/\Rd y r o l (if US rest=k then rest.tail else rest)/\UF r w y:=by
 have b:=pM w r o l rest h I;by_cases f:US rest=k
 .obtain⟨p,N,K,P,B,G,d,C,m,s,J⟩:=h.view;have n:=h.words;have c:=h.lt;rcases rest with _|⟨x,z⟩;exact zC f.z A;obtain⟨u,t⟩:=x;obtain⟨g,_,Q,q,M,D⟩:=J u t z rfl;have E:=U2 B;subst f;simp only[if_true,beq_self_eq_true,nc];go_enter func143,ntmps143;go_wp2_with (go_at_call 179;(refine b.y ?_;rintro e j ⟨rfl,a⟩;clear b;have R:=a.q;have v:r<j.o.q:=η;have L:=zi a c m;have F:=(a.frozen (p:=(ω r 1)) c).A (s 1)))
  go_ret;refine⟨rfl,?_,?_⟩;obtain⟨H,n⟩:=n;exact(Rd.next (w:=j) (rest:=(u,t)::z) ((a.block r c).A d) q E ⟨H,zy n a⟩).u zQ;have S:=UF.of (r:=r) a;exact ψ
 rw[za f];have i:(US rest == k)=false:=by simpa using f
 rw[i];go_enter func143,ntmps143;go_wp2_with (go_at_call 179;refine b.y ?_;rintro e j ⟨rfl,a⟩;clear b)
 go_ret;exact⟨rfl,h.u (a.C a.q _),UF.of (a.C a.q _)⟩
def kW(w:U)(r:Nat)(a:O)(l rest:Δ)(k:Int)(h:Rd w r a l rest)(f:l.j<=500)(d:k≠0)(b:US rest=k):
  c_ e_ 143 #[(π r),ι k] w λe c=>e=ε (.i true)/\Rd c r a l rest.tail/\UF r w c:=by
 have:=Vs w r a l rest k h f d;rw[zb b,b,beq_self_eq_true] at this;exact this
def po(w:U)(r:Nat)(a:O)(l rest:Δ)(k:Int)(h:Rd w r a l rest)(f:l.j<=500)(d:k≠0)(b:US rest≠k):
  c_ e_ 143 #[(π r),ι k] w λe c=>e=ε (.i false)/\Rd c r a l rest/\UF r w c:=by
 have:=Vs w r a l rest k h f d;rw[za b,show(US rest == k)=false by simpa using b] at this;exact this
end
section
open Go.Proofs.Tryz Go.RowKit
variable {lo:Nat}
def Uw:(e_.info? 9).map (λi=>(i.zero,i.q,i.bytes))=Z (Z (.g g_),1,16):=χ
def tB(w:U)(r:Nat)(b:O)(l rest:List UA)(e:Ending)(w':U):Prop:=
 UF r w w'/\match y5 rest with
  |none=>e=ε (.B #[ν,.i false])
  |some (a,c)=>∃v,e=ε (.B #[v,.i true])/\U7 w.o.q w' v a/\Rd w' r b l c
def DR{w w':U}{r:Nat}{a:O}{l rest:Δ}(h:X (y5 rest=Y))(c:UF r w w'):tB w r a l rest (ε (.B #[ν,.i false])) w':=by
 have b:y5 rest=none:=h;unfold tB;rw[b];exact⟨c,rfl⟩
def J6{w w':U}{r:Nat}{a v:O}{l rest r2:Δ}{ts:List Λ}(h:X (y5 rest=Z (ts,r2)))(d:UF r w w')(hs:U7 w.o.q w' v ts)(b:Rd w' r a l r2):
  tB w r a l rest (ε (.B #[v,.i true])) w':=by
 have c:y5 rest=Z (ts,r2):=h;unfold tB;rw[c];exact⟨d,v,rfl,hs,b⟩
def GS{α β:Type}(o:Option (List α×β))(a:List α)(x:α):((o.map λz=>(x::z.1,z.2)).map λz=>(a++z.1,z.2))=o.map λz=>((a++[x])++z.1,z.2):=by cases o<;>simp
def IE(w:U)(r:Nat)(L:O)(l rest:Δ)(h:Rd w r L l rest)(hl:l.j<=500):
  c_ e_ 180 #[(π r)] w λe P=>tB w r L l rest e P:=by
 obtain⟨i0,hi,aa,ae,S⟩:=info_parts Uw;have au:=h.lt;go_enter func180,ntmps180;go_wp2;go_loopg [4,5] (rest.j) (λn v t wr=>∃(f:List Λ) (b:Δ) (more:Bool),t=.i more/\b.j<=n/\b.j+f.j<=rest.j ∧
   wr.r w.o.q 9 1 v f.j (f.map j_)/\Rd wr r L l b/\UF r w wr ∧
   X (more=true->y5 rest=(y5 b).map λz=>(f++z.1,z.2))/\X (more=false->y5 rest=Z (f,b)))
 case atStart=>exact⟨[],rest,true,rfl,ze _,ζ,xj _ _ _ _,h,UF.refl _ _,(λ_=>ζ),(λh=>by cases h)⟩
 obtain⟨f,b,more,rfl,hn,F,y,o,d,D,N⟩:=hrel;have aq:rest.j<=l.j:=by
  obtain⟨p,_,hp,_⟩:=h.box;rw[hp];simp
 have ap:=d.q;have j:=o.lt;cases more
 .have H:=U2 (N rfl);clear D N;go_wp2;go_ret2
  exact J6 H d y o
 have c:=pM wr r L l b o hl;rcases b with _|⟨x,i⟩
 .have H:X (y5 rest=Y):=by rw[X.out D rfl];simp[y5,X]
  clear D N;have M:VE 0=false:=rfl;simp only[US] at c;go_wp2_with (first|(go_at_call 179;refine c.y ?_;rintro e A ⟨rfl,a⟩;clear c;have hz:=a.q)|(go_at_call 199;refine(Bk _ _).y ?_;rintro e P ⟨rfl,rfl⟩))
  go_ret2
  have hB:=d.A (UF.of a);exact DR H ψ
 obtain⟨k,t⟩:=x;simp only[US,N_] at c;cases M:VE k
 .have H:X (y5 rest=Y):=by rw[X.out D rfl,ST M];simp[X]
  clear D N;go_wp2_with (first|(go_at_call 179;refine c.y ?_;rintro e A ⟨rfl,a⟩;clear c;have hz:=a.q)|(go_at_call 199;refine(Bk _ _).y ?_;rintro e P ⟨rfl,rfl⟩))
  go_ret2
  have hB:=d.A (UF.of a);exact DR H ψ
 obtain⟨p,ao,ax,hp,hr,G,s,Q,ad,al,hx⟩:=o.view;obtain⟨g,_,hg,aj,ak,W⟩:=hx k t i rfl;have HR:X ((k,t)::i=l.drop p):=hr;have HW:=U2 G;clear hx hr ak W Q G;go_wp2_with (first|(go_at_call 179;refine c.y ?_;rintro e A ⟨rfl,a⟩;clear c;have hz:=a.q;have an:r<A.o.q:=η;have aw:=zi a j ad;have ar:=(a.frozen (p:=(ω r 1)) j).A (al 1);have ac:=a;have K:=Rd.next (w:=A) (rest:=(k,t)::i) ((a.block r j).A s) aj HR ⟨_,zy o.words.choose_spec a⟩;have ah:=xJ (zy y a) ((UF.refl r A).x 1 (ι ((p:Int)+1))) ((a.block r j).A s) θ;have af:=(d.A (UF.of a)).x 1 (ι ((p:Int)+1));have av:(A.x (ω r 1) (ι ((p:Int)+1))).o.q=A.o.q:=ζ;clear ac)|(go_at_call 199;refine(Bk _ _).y ?_;rintro e P ⟨rfl,rfl⟩)|(at_builtin;refine kU (A.x (ω r 1) (ι ((p:Int)+1))) _ _ _ rfl (.tmp 21) (.tmp 24) 30 rfl w.o.q 9 i0 _ 1 16 underlying30 hi aa ae S rfl θ _ _ _ rfl ah zQ _ _ rfl ζ rfl a_ (by simp at F;omega) η η ?_;intro v' w2 R J ai ab ag am;clear ai ab ag;have u:=Rd.keep h K J;have C:=af.onto J;have E:=Vs w2 r L l i 6 u hl θ)|(go_at_call 143;refine E.y ?_;rintro e w3 ⟨rfl,I,q⟩;clear E))
 obtain⟨c3,f3,B⟩:=u.cell;have T:=xJ R q B θ;have hP:=X.out D trivial;simp only[xp] at hn F;have V:(if US i=6 then i.tail else i).j<=i.j:=by split<;>simp
 go_roundg i.j
 case measure=>omega
 refine⟨f++[t],(if US i=6 then i.tail else i),(US i == 6),rfl,V,by simp;omega,by simpa using T,I,C.A q,?_,?_⟩;intro h6;have m:US i=6:=by simpa using h6
 rw[zb m,hP,RT M m,GS];intro h6;have m:US i≠6:=by simpa using h6
 rw[za m,hP,IG M m];simp
def SU(w:U)(r:Nat)(a:O)(l rest:Δ)(h:Rd w r a l rest)(f:l.j<=500)(g:y5 rest=Y):
  c_ e_ 180 #[(π r)] w λe c=>e=ε (.B #[ν,.i false])/\UF r w c:=by
 refine(IE w r a l rest h f).y ?_;rintro e c ⟨d,b⟩;rw[g] at b;exact⟨b,d⟩
def Dt(w:U)(r:Nat)(f:O)(l rest r2:Δ)(ts:List Λ)(h:Rd w r f l rest)(j:l.j<=500)(k:y5 rest=Z (ts,r2)):
  c_ e_ 180 #[(π r)] w λe d=>∃v,e=ε (.B #[v,.i true])/\U7 w.o.q d v ts/\Rd d r f l r2/\UF r w d:=by
 refine(IE w r f l rest h j).y ?_;rintro e d ⟨i,g⟩;rw[k] at g;obtain⟨v,a,b,c⟩:=g;exact⟨v,a,b,c,i⟩
def nw(o:Option (zk×List UA))(w:U)(r:Nat)(c:O)(l:List UA)(e:Ending)(w':U):Prop:=
 UF r w w'/\match o with
  |none=>e=ε (.B #[.agg #[.i false,.g g_,ν],.i false])
  |some (a,d)=>∃b,e=ε (.B #[.agg #[.i a.i,.g a.o,b],.i true])/\U7 w.o.q w' b a.k/\Rd w' r c l d
def SW(w:U)(r:Nat)(d:O)(l rest:Δ)(h:Rd w r d l rest)(m:l.j<=500)(t:(US rest == 1)=false):
  c_ e_ 142 #[(π r)] w λe s=>nw Y w r d l e s:=by
 have q:=h.lt;have j:w.o.q≠r:=η;go_enter func142,ntmps142;go_wp2_with (first|(go_at_call 179;refine(pM _ r d l rest (by exact h.u γ) m).y ?_;rintro e p ⟨rfl,b⟩;have c:=U6 zQ b;have k:=(U3.new w _ _).u b;have i:=h.u c)|(go_at_call 143;refine(Vs _ r d l rest 1 (by exact i.u γ) m θ).y ?_;rintro e x ⟨rfl,n,a⟩;have f:=(k.u zQ).but a j;obtain⟨g,o⟩:=f.H))
 have u:=(UF.of c).A (((UF.refl r p).C _).A a);exact zP (v:=.B #[.agg #[.i false,.g g_,ν],.i false]) (by simp[results,results142,go_sem,g];rfl) rfl ⟨ψ,rfl⟩
def RY(w:U)(r:Nat)(g:O)(l rest:Δ)(h:Rd w r g l rest)(C:l.j<=500)(H:US rest=1)(V:US rest.tail≠4):
  c_ e_ 142 #[(π r)] w λe E=>nw (Z (⟨false,(rest.headD (0,g_)).2,[]⟩,rest.tail)) w r g l e E:=by
 have T:=h.lt;have s:w.o.q≠r:=η;generalize Q:(rest.headD (0,g_)).2=t;have HT:=U2 Q;have H1:=U2 H;have A:X (∀W,Rd W r g l rest->c_ e_ 179 #[(π r)] W λe E=>e=ε (.agg #[ι 1,.g t])/\μ W E):=λW hW=>by
  have:=pM W r g l rest hW C;rw[H,X.out HT] at this;exact this
 have S:=U2 V;go_enter func142,ntmps142;go_wp2_with (first|(go_at_call 179;refine(X.out A _ (by exact h.u γ)).y ?_;rintro e u ⟨rfl,k⟩;have p:=U6 zQ k;have j:=(U3.new w _ _).u k;have aa:=j.lt;have x:=h.u p;have I:r<u.o.q:=η;have c:u.o.q≠r:=η)|(go_at_call 143;have m:=i;refine(po _ r g l rest.tail 4 m C θ S).y ?_;rintro e w3 ⟨rfl,q,a⟩;have o:=d.but a s;have n:=f.but a c;clear F z G y;obtain⟨B,ab⟩:=o.H;obtain⟨ac,ad⟩:=n.H;have N:=o.lt;have M:=n.lt;have L:=q.lt;have P:=D.A a;clear m)|(go_at_call 143;have m:=x;refine(kW _ r g l rest 1 (by exact m.u γ) C θ H1).y ?_;rintro e w2 ⟨rfl,i,b⟩;have d:=(j.u zQ).but b s;have f:=(U3.new u _ _).but b c;obtain⟨F,z⟩:=d.H;obtain⟨G,y⟩:=f.H;have R:=d.lt;have J:=f.lt;have K:=i.lt;have D:=(UF.of p).A (((UF.refl r u).C _).A b);clear m))
 exact zP (v:=.B #[.agg #[.i false,.g t,ν],.i true]) (by simp[results,results142,go_sem,B]) rfl ⟨ψ,_,rfl,U7.nil _,h.keep q γ⟩
def Qj(w:U)(r:Nat)(m:O)(l rest:Δ)(h:Rd w r m l rest)(A:l.j<=500)(Q:US rest=1)(h4:US rest.tail=4)(h5:y5 rest.tail.tail=Y):
  c_ e_ 142 #[(π r)] w λe L=>nw Y w r m l e L:=by
 have ag:=h.lt;have j:w.o.q≠r:=η;obtain⟨t,HT⟩:∃t,X ((rest.headD (0,g_)).2=t):=⟨_,rfl⟩;have H1:=U2 Q;have G:X (∀W,Rd W r m l rest->c_ e_ 179 #[(π r)] W λe L=>e=ε (.agg #[ι 1,.g t])/\μ W L):=λW hW=>by
  have:=pM W r m l rest hW A;rw[Q,X.out HT] at this;exact this
 have H4:=U2 h4;have H5:=U2 h5;go_enter func142,ntmps142;go_wp2_with (first|(go_at_call 179;refine(X.out G _ (by exact h.u γ)).y ?_;rintro e z ⟨rfl,q⟩;have x:=U6 zQ q;have p:=(U3.new w _ _).u q;have ah:=p.lt;have D:=h.u x;have S:r<z.o.q:=η;have d:z.o.q≠r:=η)|(go_at_call 180;refine(SU _ r m l rest.tail.tail y A H5).y ?_;rintro e w4 ⟨rfl,a⟩;have u:=g.but a j;have n:=f.but a d;clear H I K P;obtain⟨B,ai⟩:=u.H;obtain⟨aj,ak⟩:=n.H;have af:=u.lt;have R:=n.lt;have ac:=C.A a)|(go_at_call 143;have s:=o;refine(kW _ r m l rest.tail 4 s A θ H4).y ?_;rintro e w3 ⟨rfl,y,b⟩;have g:=i.but b j;have f:=k.but b d;clear M F N E;obtain⟨H,I⟩:=g.H;obtain⟨K,P⟩:=f.H;have ad:=g.lt;have ab:=f.lt;have aa:=y.lt;have C:=J.A b;clear s)|(go_at_call 143;have s:=D;refine(kW _ r m l rest 1 (by exact s.u γ) A θ H1).y ?_;rintro e w2 ⟨rfl,o,c⟩;have i:=(p.u zQ).but c j;have k:=(U3.new z _ _).but c d;obtain⟨M,F⟩:=i.H;obtain⟨N,E⟩:=k.H;have ae:=i.lt;have T:=k.lt;have V:=o.lt;have J:=(UF.of x).A (((UF.refl r z).C _).A c);clear s))
 exact zP (v:=.B #[.agg #[.i false,.g g_,ν],.i false]) (by simp[results,results142,go_sem,B];rfl) rfl ⟨ψ,rfl⟩
def O4(w:U)(r:Nat)(j:O)(l rest r2:Δ)(ts:List Λ)(h:Rd w r j l rest)(z:l.j<=500)(h1:US rest=1)(h4:US rest.tail=4)(h5:y5 rest.tail.tail=Z (ts,r2))(h6:US r2≠5):
  c_ e_ 142 #[(π r)] w λe S=>nw Y w r j l e S:=by
 have ax:=h.lt;have g:w.o.q≠r:=η;obtain⟨t,HT⟩:∃t,X ((rest.headD (0,g_)).2=t):=⟨_,rfl⟩;have H1:=U2 h1;have M:X (∀W,Rd W r j l rest->c_ e_ 179 #[(π r)] W λe S=>e=ε (.agg #[ι 1,.g t])/\μ W S):=λW hW=>by
  have:=pM W r j l rest hW z;rw[h1,X.out HT] at this;exact this
 have H4:=U2 h4;have H5:=U2 h5;have H6:=U2 h6;go_enter func142,ntmps142;go_wp2_with (first|(go_at_call 179;refine(X.out M _ (by exact h.u γ)).y ?_;rintro e F ⟨rfl,s⟩;have y:=U6 zQ s;have u:=(U3.new w _ _).u s;have a1:=u.lt;have V:=h.u y;have ah:r<F.o.q:=η;have f:F.o.q≠r:=η)|(go_at_call 180;refine(Dt _ r j l rest.tail.tail r2 ts D z H5).y ?_;rintro e w4 ⟨va,rfl,x,E,a⟩;obtain⟨ao,cp,rfl⟩:=x.qm;have q:=p.but a g;have k:=m.but a f;clear G Q I ab;obtain⟨T,N⟩:=q.H;obtain⟨P,ae⟩:=k.H;have aq:=q.lt;have ak:=k.lt;have al:=E.lt;have K:=L.A a)|(go_at_call 143;have i:=E;refine(po _ r j l r2 5 i z θ H6).y ?_;rintro e w5 ⟨rfl,ac,d⟩;have C:=q.but d g;have A:=k.but d f;clear T N P ae;obtain⟨H,aw⟩:=C.H;obtain⟨av,az⟩:=A.H;have ay:=C.lt;have ag:=A.lt;have ap:=ac.lt;have ar:=K.A d;clear i)|(go_at_call 143;have i:=B;refine(kW _ r j l rest.tail 4 i z θ H4).y ?_;rintro e w3 ⟨rfl,D,b⟩;have p:=n.but b g;have m:=o.but b f;clear af ad J aa;obtain⟨G,Q⟩:=p.H;obtain⟨I,ab⟩:=m.H;have au:=p.lt;have an:=m.lt;have aj:=D.lt;have L:=R.A b;clear i)|(go_at_call 143;have i:=V;refine(kW _ r j l rest 1 (by exact i.u γ) z θ H1).y ?_;rintro e w2 ⟨rfl,B,c⟩;have n:=(u.u zQ).but c g;have o:=(U3.new F _ _).but c f;obtain⟨af,ad⟩:=n.H;obtain⟨J,aa⟩:=o.H;have a0:=n.lt;have ai:=o.lt;have am:=B.lt;have R:=(UF.of y).A (((UF.refl r F).C _).A c);clear i))
 exact zP (v:=.B #[.agg #[.i false,.g g_,ν],.i false]) (by simp[results,results142,go_sem,H];rfl) rfl ⟨ψ,rfl⟩
def OE(w:U)(r:Nat)(k:O)(l rest r2:Δ)(ts:List Λ)(h:Rd w r k l rest)(C:l.j<=500)(h1:US rest=1)(h4:US rest.tail=4)(h5:y5 rest.tail.tail=Z (ts,r2))(h6:US r2=5):
  c_ e_ 142 #[(π r)] w λe V=>nw (Z (⟨false,(rest.headD (0,g_)).2,ts⟩,r2.tail)) w r k l e V:=by
 have az:=h.lt;have g:w.o.q≠r:=η;generalize ht:(rest.headD (0,g_)).2=t;have HT:=U2 ht;have H1:=U2 h1;have N:X (∀W,Rd W r k l rest->c_ e_ 179 #[(π r)] W λe V=>e=ε (.agg #[ι 1,.g t])/\μ W V):=λW hW=>by
  have:=pM W r k l rest hW C;rw[h1,X.out HT] at this;exact this
 have H4:=U2 h4;have H5:=U2 h5;have H6:=U2 h6;go_enter func142,ntmps142;go_wp2_with (first|(go_at_call 179;refine(X.out N _ (by exact h.u γ)).y ?_;rintro e H ⟨rfl,y⟩;have B:=U6 zQ y;have A:=(U3.new w _ _).u y;have a3:=A.lt;have ab:=h.u B;have aj:r<H.o.q:=η;have f:H.o.q≠r:=η)|(go_at_call 180;refine(Dt _ r k l rest.tail.tail r2 ts G C H5).y ?_;rintro e w4 ⟨va,rfl,i,x,b⟩;obtain⟨ao,cp,rfl⟩:=i.qm;have s:=q.but b g;have m:=n.but b f;clear I S K ad;obtain⟨aa,Q⟩:=s.H;obtain⟨R,ag⟩:=m.H;have au:=s.lt;have am:=m.lt;have an:=x.lt;have M:=z.A b)|(go_at_call 143;have j:=x;refine(kW _ r k l r2 5 j C θ H6).y ?_;rintro e w5 ⟨rfl,E,a⟩;have u:=s.but a g;have D:=m.but a f;clear aa Q R ag;obtain⟨J,ay⟩:=u.H;obtain⟨ax,a1⟩:=D.H;have a0:=u.lt;have ai:=D.lt;have ar:=E.lt;have av:=M.A a;clear j)|(go_at_call 143;have j:=F;refine(kW _ r k l rest.tail 4 j C θ H4).y ?_;rintro e w3 ⟨rfl,G,c⟩;have q:=o.but c g;have n:=p.but c f;clear ah ae L ac;obtain⟨I,S⟩:=q.H;obtain⟨K,ad⟩:=n.H;have aw:=q.lt;have aq:=n.lt;have al:=G.lt;have z:=T.A c;clear j)|(go_at_call 143;have j:=ab;refine(kW _ r k l rest 1 (by exact j.u γ) C θ H1).y ?_;rintro e w2 ⟨rfl,F,d⟩;have o:=(A.u zQ).but d g;have p:=(U3.new H _ _).but d f;obtain⟨ah,ae⟩:=o.H;obtain⟨L,ac⟩:=p.H;have a2:=o.lt;have ak:=p.lt;have ap:=F.lt;have T:=(UF.of B).A (((UF.refl r H).C _).A d);clear j))
 obtain⟨c4,f4,af⟩:=x.cell;have P:=i.but a af θ;exact zP (v:=.B #[.agg #[.i false,.g t,.k ao ts.j cp],.i true]) (by simp[results,results142,go_sem,J]) rfl ⟨ψ,_,rfl,(P.low z.q).but (r:=w.o.q) ψ u θ,h.keep E γ⟩
def CI(w:U)(r:Nat)(a:O)(l rest:Δ)(h:Rd w r a l rest)(d:l.j<=500):
  c_ e_ 142 #[(π r)] w λe k=>nw (x6 rest) w r a l e k:=by
 unfold x6;split;rename_i b;split;rename_i c;split;rename_i f;exact Qj w r a l rest h d b c f;rename_i i j f;split;rename_i g;exact OE w r a l rest j i h d b c f g;rename_i g;exact O4 w r a l rest j i h d b c f g;rename_i c;exact RY w r a l rest h d b c;rename_i b;exact SW w r a l rest h d (by simpa using b)
def E5(w:U)(r:Nat)(a:O)(l rest:Δ)(h:Rd w r a l rest)(f:l.j<=500)(g:x6 rest=Y):
  c_ e_ 142 #[(π r)] w λe c=>e=ε (.B #[.agg #[.i false,.g g_,ν],.i false])/\UF r w c:=by
 refine(CI w r a l rest h f).y ?_;rintro e c ⟨d,b⟩;rw[g] at b;exact⟨b,d⟩
def rF(w:U)(r:Nat)(f:O)(l rest r2:Δ)(a:zk)(h:Rd w r f l rest)(k:l.j<=500)(m:x6 rest=Z (a,r2)):
  c_ e_ 142 #[(π r)] w λe d=>∃g,e=ε (.B #[.agg #[.i a.i,.g a.o,g],.i true])/\U7 w.o.q d g a.k/\Rd d r f l r2/\UF r w d:=by
 refine(CI w r f l rest h k).y ?_;rintro e d ⟨j,i⟩;rw[m] at i;obtain⟨v,a,b,c⟩:=i;exact⟨v,a,b,c,j⟩
def F0(b:Bool)(w:U)(r:Nat)(g:O)(l rest a:Δ)(h:Rd w r g l rest)(A:l.j<=500)
  (k:∀W,Rd W r g l rest->c_ e_ 143 #[(π r),ι 8] W λe f=>e=ε (.i b)/\Rd f r g l a/\UF r W f) (u:x6 a=Y):
  c_ e_ 181 #[(π r)] w λe f=>nw Y w r g l e f:=by
 have y:=h.lt;have m:w.o.q≠r:=η;have n:X (∀W,Rd W r g l rest->c_ e_ 143 #[(π r),ι 8] W λe f=>e=ε (.i b)/\Rd f r g l a/\UF r W f):=k;clear k;have C:X (x6 a=Y):=u;clear u;go_enter func181,ntmps181;go_wp2_with (first|(go_at_call 143;refine(X.out n _ (by exact h.u γ)).y ?_;rintro e D ⟨rfl,i,d⟩;have j:=(U3.new w _ _).but d m;have z:=j.lt;have t:=i.lt;have p:=((UF.refl r w).C _).A d)|(go_at_call 142;refine(E5 _ r g l a i A C).y ?_;rintro e E ⟨rfl,c⟩;have q:=j.but c m;obtain⟨s,x,o⟩:=q.I;have B:=p.A c))
 exact zP (v:=.B #[.agg #[.i false,.g g_,ν],.i false]) (by simp[results,results181,go_sem,s,o];rfl) rfl ⟨ψ,rfl⟩
def CU(b:Bool)(w:U)(r:Nat)(j:O)(l rest c r2:Δ)(a:zk)(h:Rd w r j l rest)(F:l.j<=500)
  (n:∀W,Rd W r j l rest->c_ e_ 143 #[(π r),ι 8] W λe i=>e=ε (.i b)/\Rd i r j l c/\UF r W i) (z:x6 c=Z (a,r2)):
  c_ e_ 181 #[(π r)] w λe i=>nw (Z ({a with i:=b},r2)) w r j l e i:=by
 have D:=h.lt;have q:w.o.q≠r:=η;have s:X (∀W,Rd W r j l rest->c_ e_ 143 #[(π r),ι 8] W λe i=>e=ε (.i b)/\Rd i r j l c/\UF r W i):=n;clear n;have H:X (x6 c=Z (a,r2)):=z;clear z;go_enter func181,ntmps181;go_wp2_with (first|(go_at_call 143;refine(X.out s _ (by exact h.u γ)).y ?_;rintro e I ⟨rfl,k,f⟩;have m:=(U3.new w _ _).but f q;have E:=m.lt;have y:=k.lt;have o:=((UF.refl r w).C _).A f)|(go_at_call 142;refine(rF _ r j l c r2 a k F H).y ?_;rintro e J ⟨K,rfl,g,u,d⟩;obtain⟨C,A,rfl⟩:=g.qm;have p:=m.but d q;obtain⟨x,B,t⟩:=p.I;have G:=o.A d))
 exact zP (v:=.B #[.agg #[.i b,.g a.o,.k C a.k.j A],.i true]) (by simp[results,results181,go_sem,x,t]) rfl ⟨ψ,_,rfl,(g.low o.q).but (r:=w.o.q) ψ p θ,h.keep u γ⟩
def P2{rest r2:Δ}{a:zk}(h:x6 rest=Z (a,r2)):a.i=false:=by
 unfold x6 at h
 (repeat' split at h)<;>first|(cases h;done)|(simp at h;obtain⟨rfl,_⟩:=h;rfl)
def FT(w:U)(r:Nat)(b:O)(l rest:Δ)(h:Rd w r b l rest)(c:l.j<=500):
  c_ e_ 181 #[(π r)] w λe j=>nw (vm rest) w r b l e j:=by
 unfold vm;split;rename_i g;rcases f:x6 rest.tail with _|z;exact F0 true w r b l rest rest.tail h c (λW d=>kW W r b l rest 8 d c θ g) f;obtain⟨a,i⟩:=z;exact CU true w r b l rest rest.tail i a h c (λW d=>kW W r b l rest 8 d c θ g) f;rename_i g;rcases f:x6 rest with _|z;exact F0 false w r b l rest rest h c (λW d=>po W r b l rest 8 d c θ g) f;obtain⟨a,i⟩:=z;have:=CU false w r b l rest rest i a h c (λW d=>po W r b l rest 8 d c θ g) f;rwa [show({a with i:=false}:zk)=a by rw[←P2 f]] at this
end
section
open Go.Proofs.Tryz Go.RowKit
variable {lo:Nat}{v:O}{n:Nat}{w:U}{r r2:List UA}{o:Option (List zk×List UA)}
def fe{d B:U}{b C:Nat}{e t:f_}{s y:Nat}{v2:O}{z:Nat}{xs c:Γ}(I:d.r b e s v n xs)(q:e≠t)(h:d.r C t y v2 z c)
  (E:∀k,k<d.o.q->Z k≠v.m->B.o[k]?=d.o[k]?):B.r C t y v2 z c:=by
 obtain⟨F,x⟩:=h;refine⟨F,?_⟩;rcases x with x|⟨g,u,m,p,H,f,G⟩;exact zh x;refine zg ⟨g,u,m,p,H,?_,G⟩;rw[E g (kB.1 f).1 ?_];exact f;intro l;obtain⟨_,⟨i,_⟩|⟨J,D,A,j,_,a,_⟩⟩:=I;subst i;cases l;subst j;simp only[n_,zt] at l;subst l;rw[f] at a;simp at a;exact q a.2.z
def uJ(lo:Nat)(w:U):List zk->List O->Prop
 |[],b=>b=[]
 |a::d,b=>∃c r,b=.i a.i::.g a.o::c::r/\U7 lo w c a.k/\uJ lo w d r
def uJ.snoc{w:U}{a:zk}{b:O}(hs:U7 lo w b a.k):∀{ls:Ω} {xs:Γ},uJ lo w ls xs->uJ lo w (ls++[a]) (xs++[.i a.i,.g a.o,b])
 |[],_,h=>by simp only[uJ] at h;subst h;exact⟨b,[],rfl,hs,rfl⟩
 |_::ls,_,h=>by obtain⟨v,r,rfl,c,d⟩:=h;exact⟨v,r++[.i a.i,.g a.o,b],rfl,c,uJ.snoc hs d⟩
def uJ.y{w w':U}(b:∀a l,U7 lo w a l->U7 lo w' a l):∀{ls:Ω} {xs:Γ},uJ lo w ls xs->uJ lo w' ls xs
 |[],_,h=>h
 |_::ls,_,h=>by obtain⟨v,r,rfl,c,d⟩:=h;exact⟨v,r,rfl,b _ _ c,uJ.y b d⟩
def uJ.len{w:U}:∀{ls:Ω} {xs:Γ},uJ lo w ls xs->xs.j=ls.j*3
 |[],_,h=>by simp only[uJ] at h;subst h;rfl
 |_::ls,_,h=>by obtain⟨v,r,rfl,b,a⟩:=h;have:=uJ.len a;simp;omega
def uJ.at{w:U}:∀{ls:Ω} {xs:Γ} (i:Nat) (a:zk),uJ lo w ls xs->ls[i]?=Z a->∃c,xs[i*3]?=Z (.i a.i)/\xs[i*3+1]?=Z (.g a.o)/\xs[i*3+2]?=Z c/\U7 lo w c a.k
 |[],_,i,a,_,b=>by simp at b
 |_::ls,_,0,a,h,b=>by obtain⟨v,r,rfl,d,e⟩:=h;simp at b;subst b;exact⟨v,rfl,rfl,rfl,d⟩
 |_::ls,_,i+1,a,h,b=>by
  obtain⟨v,r,rfl,d,e⟩:=h;obtain⟨c,j,k,g,f⟩:=uJ.at i a e (by simpa using b);refine⟨c,?_,?_,?_,f⟩
  .rw[show(i+1)*3=i*3+1+1+1 from by omega];simpa using j
  .rw[show(i+1)*3+1=i*3+1+1+1+1 from by omega];simpa using k
  .rw[show(i+1)*3+2=i*3+2+1+1+1 from by omega];simpa using g
def Vd(lo:Nat)(w:U)(v:O)(ls:List zk):Prop:=∃a,w.r lo 90 3 v ls.j a/\uJ lo w ls a
def uJ.low{a b:Nat}{w:U}(c:a<=b):∀{ls:Ω} {xs:Γ},uJ b w ls xs->uJ a w ls xs
 |[],_,h=>h
 |_::ls,_,h=>by obtain⟨v,r,rfl,d,e⟩:=h;exact⟨v,r,rfl,d.low c,uJ.low c e⟩
def Vd.low{a b:Nat}{w:U}{v:O}{l:Ω}(h:Vd b w v l)(c:a<=b):Vd a w v l:=by obtain⟨d,h,e⟩:=h;exact⟨d,yq h c,e.low c⟩
def Vd.nil(w:U):Vd lo w (ν) []:=⟨[],xj _ _ _ _,rfl⟩
def Vd.qm{l:Ω}(h:Vd lo w v l):∃b a,v=.k b l.j a:=by obtain⟨c,h,_⟩:=h;exact zq h
def Vd.u{w w':U}{v:O}{l:Ω}(h:Vd lo w v l)(a:μ w w'):Vd lo w' v l:=by
 obtain⟨b,h,c⟩:=h;exact⟨b,zy h a,c.y λ_ _ k=>k.u a⟩
def Vd.but{r:Nat}{w w':U}{v:O}{l:Ω}(h:Vd lo w v l)(b:UF r w w'){c:Array O}{T:f_}{f:Nat×Nat}(d:w.o[r]?=Z (.E c T f))(i:T≠9)(a:T≠90):Vd lo w' v l:=by
 obtain⟨e,h,g⟩:=h;exact⟨e,xJ h b d a,g.y λ_ _ k=>k.but b d i⟩
def un:Nat->List UA->Option (List zk×List UA)
 |0,_=>Y
 |n+1,r=>match vm r with
  |none=>Y
  |some (a,r2)=>if US r2=6 then(un n r2.tail).map λz=>(a::z.1,z.2) else Z ([a],r2)
def tK(h:vm r=Y):un (n+1) r=none:=by simp[un,h]
def rJ{a:zk}(h:vm r=Z (a,r2))(b:US r2=6):un (n+1) r=(un n r2.tail).map λz=>(a::z.1,z.2):=by simp[un,h,b]
def sI{a:zk}(h:vm r=Z (a,r2))(b:US r2≠6):un (n+1) r=Z ([a],r2):=by simp[un,h,b]
def Dx:∀(r:Δ) {ts:List Λ} {r2:Δ},y5 r=Z (ts,r2)->r2.j<r.j
 |[],_,_,h=>by simp[y5] at h
 |[x],ts,r2,h=>by
  simp only[y5] at h;split at h<;>simp at h
  obtain⟨_,rfl⟩:=h;simp
 |x::y::r,ts,r2,h=>by
  simp only[y5] at h;split at h
  .split at h
   .cases a:y5 r with
    |none=>rw[a] at h;simp at h
    |some z=>
     obtain⟨b,c⟩:=z;rw[a] at h;simp at h;have:=Dx r a;obtain⟨_,rfl⟩:=h;simp;omega
   .simp at h;obtain⟨_,rfl⟩:=h;simp
  .simp at h
def ev{a:zk}(h:x6 r=Z (a,r2)):r2.j<r.j:=by
 rcases r with _|⟨x,r⟩;simp[x6,US] at h;unfold x6 at h;split at h;split at h;split at h;simp at h;rename_i c d b;have:=Dx _ b;split at h<;>simp at h
 obtain⟨_,rfl⟩:=h;simp at this ⊢;omega;simp at h;obtain⟨_,rfl⟩:=h;simp;simp at h
def CP{a:zk}(h:vm r=Z (a,r2)):r2.j<r.j:=by
 unfold vm at h;split at h;rcases b:x6 r.tail with _|z;rw[b] at h;simp at h;obtain⟨c,d⟩:=z;rw[b] at h;simp at h;have:=ev b;obtain⟨_,rfl⟩:=h;simp at this;omega;exact ev h
def My(w:U)(r:Nat)(a:O)(l rest:Δ)(h:Rd w r a l rest)(f:l.j<=500)(g:vm rest=Y):
  c_ e_ 181 #[(π r)] w λe c=>e=ε (.B #[.agg #[.i false,.g g_,ν],.i false])/\UF r w c:=by
 refine(FT w r a l rest h f).y ?_;rintro e c ⟨d,b⟩;rw[g] at b;exact⟨b,d⟩
def N7(w:U)(r:Nat)(f:O)(l rest r2:Δ)(a:zk)(h:Rd w r f l rest)(k:l.j<=500)(m:vm rest=Z (a,r2)):
  c_ e_ 181 #[(π r)] w λe d=>∃g,e=ε (.B #[.agg #[.i a.i,.g a.o,g],.i true])/\U7 w.o.q d g a.k/\Rd d r f l r2/\UF r w d:=by
 refine(FT w r f l rest h k).y ?_;rintro e d ⟨j,i⟩;rw[m] at i;obtain⟨v,a,b,c⟩:=i;exact⟨v,a,b,c,j⟩
def Uo:(e_.info? 90).map (λi=>(i.zero,i.q,i.bytes))=Z (Z (.agg #[.i false,.g g_,ν]),3,48):=χ
def Ah(o:Option (List zk×List UA))(w:U)(r:Nat)(b:O)(l:List UA)(e:Ending)(w':U):Prop:=
 UF r w w'/\match o with
  |none=>e=ε (.B #[ν,.i false])
  |some (a,r2)=>∃v,e=ε (.B #[v,.i true])/\Vd w.o.q w' v a/\Rd w' r b l r2
def OX{w':U}{r:Nat}{a:O}{l:Δ}(h:X (o=Y))(c:UF r w w'):Ah o w r a l (ε (.B #[ν,.i false])) w':=by
 have b:o=none:=h;subst b;exact⟨c,rfl⟩
def Mh{w':U}{r:Nat}{a:O}{l:Δ}{ls:Ω}(h:X (o=Z (ls,r2)))(d:UF r w w')(hs:Vd w.o.q w' v ls)(b:Rd w' r a l r2):
  Ah o w r a l (ε (.B #[v,.i true])) w':=by
 have c:o=Z (ls,r2):=h;subst c;exact⟨d,v,rfl,hs,b⟩
def Ed(w:U)(r:Nat)(H:O)(l rest:Δ)(h:Rd w r H l rest)(hl:l.j<=500)(G:Nat)(ad:rest.j<G):
  c_ e_ 144 #[(π r)] w λe w'=>Ah (un G rest) w r H l e w':=by
 obtain⟨i0,hi,ae,ah,ai⟩:=info_parts Uo;have ap:=h.lt;go_enter func144,ntmps144;go_wp2;go_loopg [4,5] (rest.j) (λn v t wr=>∃(i:Ω) (c:Δ) (more:Bool) (m:Nat) (xs:Γ),t=.i more/\c.j<=n/\c.j<m/\c.j+i.j<=rest.j ∧
   wr.r w.o.q 90 3 v i.j xs/\uJ w.o.q wr i xs/\Rd wr r H l c/\UF r w wr ∧
   X (more=true->un G rest=(un m c).map λz=>(i++z.1,z.2))/\X (more=false->un G rest=Z (i,c)))
 case atStart=>exact⟨[],rest,true,G,[],rfl,ze _,ad,ζ,xj _ _ _ _,rfl,h,UF.refl _ _,(λ_=>ζ),(λh=>by cases h)⟩
 obtain⟨i,c,more,m,xs,rfl,hn,hm,aq,y,R,s,j,K,S⟩:=hrel;have an:rest.j<=l.j:=by
  obtain⟨p,_,hp,_⟩:=h.box;rw[hp];simp
 have V:=j.q;obtain⟨c0,f0,g⟩:=s.cell;cases more
 .have F:=U2 (S rfl);clear K S;go_wp2;go_ret2
  exact Mh F j ⟨_,y,R⟩ s
 obtain⟨m,rfl⟩:∃m',m=m'+1:=⟨m-1,η⟩;have HC:=U2 g;rcases E:vm c with _|z
 .have F:X (un G rest=Y):=by rw[X.out K rfl,tK E];simp[X]
  have T:=U2 E;clear K S E;go_wp2_with (go_at_call 181;refine(My _ r H l c s hl T).y ?_;rintro e w1 ⟨rfl,b⟩;have u:=j.A b;have ag:=u.q)
  go_ret2
  exact OX F ψ
 obtain⟨a,r2⟩:=z;have T:=U2 E;have ar:=CP E;have F:=U2 (K rfl);clear K S E;go_wp2_with (first|(go_at_call 181;refine(N7 _ r H l c r2 a s hl T).y ?_;rintro e w1 ⟨va,rfl,B,aa,b⟩;obtain⟨ao,cp,rfl⟩:=B.qm;have u:=j.A b;have ag:=u.q;have D:=xJ y b g θ;have L:=R.y λ_ _ k=>k.but b g θ)|(at_builtin;refine kU w1 _ _ _ rfl (.tmp 16) (.tmp 18) 91 rfl w.o.q 90 i0 _ 3 48 underlying91 hi ae ah ai rfl θ _ _ _ rfl D zQ _ _ rfl ζ rfl a_ η η η ?_;intro v' w2 W Q aj af P am;clear aj af;have x:=Rd.keep h aa Q;have C:=u.onto Q;have al:U7 w.o.q w2 (O.slice ao a.k.j cp) a.k:=yq (fe D θ B P) V;have N:=L.y λ_ _ k=>fe D θ k P;have I:=Vs w2 r H l r2 6 x hl θ)|(go_at_call 143;refine I.y ?_;rintro e w3 ⟨rfl,M,d⟩;clear I))
 obtain⟨c3,f3,f⟩:=x.cell;have ab:=xJ W d f θ;have ak:=al.but d f θ;have J:=N.y λ_ _ k=>k.but d f θ;have ac:(if US r2=6 then r2.tail else r2).j<=r2.j:=by split<;>simp
 have A:vm c=Z (a,r2):=T;go_roundg r2.j
 case measure=>omega
 refine⟨i++[a],(if US r2=6 then r2.tail else r2),(US r2 == 6),m,_,rfl,ac,η,by simp;omega,by rw[yB];exact ab,J.snoc ak,M,C.A d,?_,?_⟩;intro h6;have q:US r2=6:=by simpa using h6
 rw[zb q,X.out F,rJ A q,GS];intro h6;have q:US r2≠6:=by simpa using h6
 rw[za q,X.out F,sI A q];simp
end
section
open Go.Proofs.Tryz Go.RowKit
variable {lo:Nat}
def vJ(n:Nat)(r:List UA):Option (zd×List UA):=
 match x6 r with
 |none=>Y
 |some (a,c)=>
  if US c=9 then
   match un n c.tail with
   |none=>Y
   |some (b,d)=>if US d=7 then Z (⟨a,b⟩,d.tail) else Y
  else if US c=7 then Z (⟨a,[]⟩,c.tail) else Y
def JD(w:U)(r:Nat)(c:O)(l rest:Δ)(h:Rd w r c l rest)(i:l.j<=500)(b:Nat)(a:rest.j<b)(j:un b rest=Y):
  c_ e_ 144 #[(π r)] w λe d=>e=ε (.B #[ν,.i false])/\UF r w d:=by
 refine(Ed w r c l rest h i b a).y ?_;rintro e d ⟨g,f⟩;rw[j] at f;exact⟨f,g⟩
def Fs(w:U)(r:Nat)(f:O)(l rest r2:Δ)(b:Ω)(h:Rd w r f l rest)(m:l.j<=500)(i:Nat)(g:rest.j<i)(n:un i rest=Z (b,r2)):
  c_ e_ 144 #[(π r)] w λe d=>∃v,e=ε (.B #[v,.i true])/\Vd w.o.q d v b/\Rd d r f l r2/\UF r w d:=by
 refine(Ed w r f l rest h m i g).y ?_;rintro e d ⟨k,j⟩;rw[n] at j;obtain⟨v,a,b,c⟩:=j;exact⟨v,a,b,c,k⟩
def pJ(o:Option (zd×List UA))(w:U)(r:Nat)(f:O)(l:List UA)(e:Ending)(w':U):Prop:=
 UF r w w'/\match o with
  |none=>e=ε (.B #[.agg #[.i false,.g g_,ν,ν],.i false])
  |some (c,d)=>∃a b,e=ε (.B #[.agg #[.i c.g.i,.g c.g.o,a,b],.i true])/\U7 w.o.q w' a c.g.k/\Vd w.o.q w' b c.d/\Rd w' r f l d
def MF(w:U)(r:Nat)(c:O)(l rest:Δ)(h:Rd w r c l rest)(k:l.j<=500)(n:x6 rest=Y):
  c_ e_ 100 #[(π r)] w λe p=>pJ Y w r c l e p:=by
 have j:=h.lt;have b:w.o.q≠r:=η;have o:=U2 n;go_enter func100,ntmps100;go_wp2_with (go_at_call 142;refine(E5 _ r c l rest (by exact h.u γ) k o).y ?_;rintro e q ⟨rfl,a⟩;have d:=(U3.new w _ _).but a b;obtain⟨f,i,g⟩:=d.I;have m:=((UF.refl r w).C _).A a)
 exact zP (v:=.B #[.agg #[.i false,.g g_,ν,ν],.i false]) (by simp[results,results100,go_sem,f,g];rfl) rfl ⟨ψ,rfl⟩
def Rn(w:U)(r:Nat)(z:O)(l rest:Δ)(h:Rd w r z l rest)(G:l.j<=500)(q:Δ)(a:zk)(ha:x6 rest=Z (a,q))(h9:US q≠9)(W:US q≠7):
  c_ e_ 100 #[(π r)] w λe w'=>pJ Y w r z l e w':=by
 have aa:=h.lt;have n:w.o.q≠r:=η;have HA:=U2 ha;have V:=U2 h9;have H7:=U2 W;go_enter func100,ntmps100;go_wp2_with (first|(go_at_call 142;refine(rF _ r z l rest q a (by exact h.u γ) G HA).y ?_;rintro e C ⟨va,rfl,y,j,g⟩;obtain⟨ao,cp,rfl⟩:=y.qm;have t:=(U3.new w _ _).but g n;have ab:=t.lt;have L:=j.lt;have i:C.o.q≠r:=η;have D:=((UF.refl r w).C _).A g)|(go_at_call 143;have p:=s;refine(po _ r z l q 7 p G θ H7).y ?_;rintro e w3 ⟨rfl,E,b⟩;obtain⟨c7,f7,f⟩:=p.cell;have af:=K.but b f θ;have x:=m.but b n;have u:=o.but b i;clear I B J A;obtain⟨F,ac⟩:=x.H;obtain⟨ad,ae⟩:=u.H;have R:=x.lt;have Q:=u.lt;have P:=E.lt;have S:=H.A b;clear p f)|(go_at_call 143;have p:=j;refine(po _ r z l q 9 (by exact p.u γ) G θ V).y ?_;rintro e w2 ⟨rfl,s,c⟩;have k:=(UF.refl r C).C (D_ #[.i a.i,.g a.o,.k ao a.k.j cp] 90);obtain⟨c1,f1,d⟩:=j.cell;have K:=y.but (k.A c) d θ;have m:=(t.u zQ).but c n;have o:=(U3.new C _ _).but c i;obtain⟨I,B⟩:=m.H;obtain⟨J,A⟩:=o.H;have T:=m.lt;have M:=o.lt;have N:=s.lt;have H:=D.A (k.A c);clear p k d))
 exact zP (v:=.B #[.agg #[.i false,.g g_,ν,ν],.i false]) (by simp[results,results100,go_sem,F];rfl) rfl ⟨ψ,rfl⟩
def RB(w:U)(r:Nat)(A:O)(l rest:Δ)(h:Rd w r A l rest)(G:l.j<=500)(q:Δ)(a:zk)(ha:x6 rest=Z (a,q))(h9:US q≠9)(h7:US q=7):
  c_ e_ 100 #[(π r)] w λe w'=>pJ (Z (⟨a,[]⟩,q.tail)) w r A l e w':=by
 have ab:=h.lt;have o:w.o.q≠r:=η;have HA:=U2 ha;have H9:=U2 h9;have H7:=U2 h7;go_enter func100,ntmps100;go_wp2_with (first|(go_at_call 142;refine(rF _ r A l rest q a (by exact h.u γ) G HA).y ?_;rintro e D ⟨va,rfl,z,j,g⟩;obtain⟨N,M,rfl⟩:=z.qm;have u:=(U3.new w _ _).but g o;have ac:=u.lt;have P:=j.lt;have i:D.o.q≠r:=η;have E:=((UF.refl r w).C _).A g)|(go_at_call 143;have s:=t;refine(kW _ r A l q 7 s G θ H7).y ?_;rintro e w3 ⟨rfl,y,b⟩;obtain⟨c7,f7,f⟩:=s.cell;have K:=L.but b f θ;have k:=n.but b o;have x:=p.but b i;clear I C J B;obtain⟨F,ad⟩:=k.H;obtain⟨ae,af⟩:=x.H;have V:=k.lt;have T:=x.lt;have S:=y.lt;have W:=H.A b;clear s f)|(go_at_call 143;have s:=j;refine(po _ r A l q 9 (by exact s.u γ) G θ H9).y ?_;rintro e w2 ⟨rfl,t,c⟩;have m:=(UF.refl r D).C (D_ #[.i a.i,.g a.o,.k N a.k.j M] 90);obtain⟨c1,f1,d⟩:=j.cell;have L:=z.but (m.A c) d θ;have n:=(u.u zQ).but c o;have p:=(U3.new D _ _).but c i;obtain⟨I,C⟩:=n.H;obtain⟨J,B⟩:=p.H;have aa:=n.lt;have Q:=p.lt;have R:=t.lt;have H:=E.A (m.A c);clear s m d))
 exact zP (v:=.B #[.agg #[.i a.i,.g a.o,.k N a.k.j M,ν],.i true]) (by simp[results,results100,go_sem,F]) rfl ⟨ψ,_,_,rfl,(K.low (by first|(simp;done)|omega)).but (r:=w.o.q) ψ k θ,Vd.nil _,h.keep y γ⟩
def SJ(w:U)(r:Nat)(x:O)(l rest:Δ)(h:Rd w r x l rest)(D:l.j<=500)(o:Δ)(a:zk)(F:Nat)(ha:x6 rest=Z (a,o))(T:US o=9)(hn:o.tail.j<F)(P:un F o.tail=Y):
  c_ e_ 100 #[(π r)] w λe w'=>pJ Y w r x l e w':=by
 have aa:=h.lt;have m:w.o.q≠r:=η;have HA:=U2 ha;have S:=U2 T;have HN:=U2 hn;have V:=U2 P;go_enter func100,ntmps100;go_wp2_with (first|(go_at_call 142;refine(rF _ r x l rest o a (by exact h.u γ) D HA).y ?_;rintro e A ⟨va,rfl,u,i,f⟩;obtain⟨ao,W,rfl⟩:=u.qm;have q:=(U3.new w _ _).but f m;have ab:=q.lt;have J:=i.lt;have g:A.o.q≠r:=η;have B:=((UF.refl r w).C _).A f)|(go_at_call 144;refine(JD _ r x l o.tail p D F HN V).y ?_;rintro e w3 ⟨rfl,c⟩;have t:=k.but c m;have s:=n.but c g;clear G z H y;obtain⟨C,ac⟩:=t.H;obtain⟨ad,ae⟩:=s.H;have N:=t.lt;have M:=s.lt;have Q:=E.A c)|(go_at_call 143;have I:=i;refine(kW _ r x l o 9 (by exact I.u γ) D θ S).y ?_;rintro e w2 ⟨rfl,p,b⟩;have j:=(UF.refl r A).C (D_ #[.i a.i,.g a.o,.k ao a.k.j W] 90);obtain⟨c1,f1,d⟩:=i.cell;have af:=u.but (j.A b) d θ;have k:=(q.u zQ).but b m;have n:=(U3.new A _ _).but b g;obtain⟨G,z⟩:=k.H;obtain⟨H,y⟩:=n.H;have R:=k.lt;have K:=n.lt;have L:=p.lt;have E:=B.A (j.A b);clear I j d))
 exact zP (v:=.B #[.agg #[.i false,.g g_,ν,ν],.i false]) (by simp[results,results100,go_sem,C];rfl) rfl ⟨ψ,rfl⟩
def Q8(w:U)(r:Nat)(A:O)(l rest:Δ)(h:Rd w r A l rest)(G:l.j<=500)(x r2:Δ)(a:zk)(b:Ω)(P:Nat)(ha:x6 rest=Z (a,x))(h9:US x=9)(hn:x.tail.j<P)(hb:un P x.tail=Z (b,r2))(h7:US r2≠7):
  c_ e_ 100 #[(π r)] w λe w'=>pJ Y w r A l e w':=by
 have aw:=h.lt;have n:w.o.q≠r:=η;have HA:=U2 ha;have H9:=U2 h9;have HN:=U2 hn;have HB:=U2 hb;have H7:=U2 h7;go_enter func100,ntmps100;go_wp2_with (first|(go_at_call 142;refine(rF _ r A l rest x a (by exact h.u γ) G HA).y ?_;rintro e T ⟨va,rfl,D,u,m⟩;obtain⟨ao,cp,rfl⟩:=D.qm;have C:=(U3.new w _ _).but m n;have ay:=C.lt;have ae:=u.lt;have k:T.o.q≠r:=η;have L:=((UF.refl r w).C _).A m)|(go_at_call 144;refine(Fs _ r A l x.tail r2 b y G P HN HB).y ?_;rintro e w3 ⟨vb,rfl,V,F,d⟩;obtain⟨ap,aq,rfl⟩:=V.qm;obtain⟨c3,f3,j⟩:=y.cell;have ad:=Q.but d j θ;have s:=p.but d n;have o:=q.but d k;clear ab aa J S;obtain⟨H,M⟩:=s.H;obtain⟨I,W⟩:=o.H;have an:=s.lt;have ak:=o.lt;have ag:=F.lt;have K:=N.A d;clear j)|(go_at_call 143;have z:=F;refine(po _ r A l r2 7 z G θ H7).y ?_;rintro e w4 ⟨rfl,ac,c⟩;obtain⟨c7,f7,i⟩:=z.cell;have av:=ad.but c i θ;have E:=s.but c n;have B:=o.but c k;clear H M I W;obtain⟨R,ar⟩:=E.H;obtain⟨au,az⟩:=B.H;have al:=E.lt;have ah:=B.lt;have ai:=ac.lt;have am:=K.A c;clear z i)|(go_at_call 143;have z:=u;refine(kW _ r A l x 9 (by exact z.u γ) G θ H9).y ?_;rintro e w2 ⟨rfl,y,f⟩;have t:=(UF.refl r T).C (D_ #[.i a.i,.g a.o,.k ao a.k.j cp] 90);obtain⟨c1,f1,g⟩:=u.cell;have Q:=D.but (t.A f) g θ;have p:=(C.u zQ).but f n;have q:=(U3.new T _ _).but f k;obtain⟨ab,aa⟩:=p.H;obtain⟨J,S⟩:=q.H;have ax:=p.lt;have af:=q.lt;have aj:=y.lt;have N:=L.A (t.A f);clear z t g))
 exact zP (v:=.B #[.agg #[.i false,.g g_,ν,ν],.i false]) (by simp[results,results100,go_sem,R];rfl) rfl ⟨ψ,rfl⟩
def Mb(w:U)(r:Nat)(B:O)(l rest:Δ)(h:Rd w r B l rest)(I:l.j<=500)(y r2:Δ)(a:zk)(b:Ω)(T:Nat)(ha:x6 rest=Z (a,y))(h9:US y=9)(hn:y.tail.j<T)(hb:un T y.tail=Z (b,r2))(h7:US r2=7):
  c_ e_ 100 #[(π r)] w λe w'=>pJ (Z (⟨a,b⟩,r2.tail)) w r B l e w':=by
 have aw:=h.lt;have n:w.o.q≠r:=η;have HA:=U2 ha;have H9:=U2 h9;have HN:=U2 hn;have HB:=U2 hb;have H7:=U2 h7;go_enter func100,ntmps100;go_wp2_with (first|(go_at_call 142;refine(rF _ r B l rest y a (by exact h.u γ) I HA).y ?_;rintro e w1 ⟨va,rfl,E,x,m⟩;obtain⟨ao,cp,rfl⟩:=E.qm;have D:=(U3.new w _ _).but m n;have ay:=D.lt;have ah:=x.lt;have k:w1.o.q≠r:=η;have Q:=((UF.refl r w).C _).A m)|(go_at_call 144;refine(Fs _ r B l y.tail r2 b z I T HN HB).y ?_;rintro e w3 ⟨vb,rfl,F,G,d⟩;obtain⟨N,P,rfl⟩:=F.qm;obtain⟨c3,f3,j⟩:=z.cell;have ag:=V.but d j θ;have t:=q.but d n;have p:=s.but d k;clear af ae L ac;obtain⟨J,R⟩:=t.H;obtain⟨K,ad⟩:=p.H;have ar:=t.lt;have an:=p.lt;have aj:=G.lt;have M:=S.A d;clear j)|(go_at_call 143;have A:=G;refine(kW _ r B l r2 7 A I θ H7).y ?_;rintro e w4 ⟨rfl,H,c⟩;obtain⟨c7,f7,g⟩:=A.cell;have aa:=ag.but c g θ;have ab:=F.but c g θ θ;have o:=t.but c n;have C:=p.but c k;clear J R K ad;obtain⟨W,au⟩:=o.H;obtain⟨av,az⟩:=C.H;have ap:=o.lt;have ak:=C.lt;have al:=H.lt;have aq:=M.A c;clear A g)|(go_at_call 143;have A:=x;refine(kW _ r B l y 9 (by exact A.u γ) I θ H9).y ?_;rintro e w2 ⟨rfl,z,f⟩;have u:=(UF.refl r w1).C (D_ #[.i a.i,.g a.o,.k ao a.k.j cp] 90);obtain⟨c1,f1,i⟩:=x.cell;have V:=E.but (u.A f) i θ;have q:=(D.u zQ).but f n;have s:=(U3.new w1 _ _).but f k;obtain⟨af,ae⟩:=q.H;obtain⟨L,ac⟩:=s.H;have ax:=q.lt;have ai:=s.lt;have am:=z.lt;have S:=Q.A (u.A f);clear A u i))
 exact zP (v:=.B #[.agg #[.i a.i,.g a.o,.k ao a.k.j cp,.k N b.j P],.i true]) (by simp[results,results100,go_sem,W]) rfl ⟨ψ,_,_,rfl,(aa.low (by first|(simp;done)|omega)).but (r:=w.o.q) ψ o θ,(ab.low (by first|(simp;done)|omega)).but (r:=w.o.q) ψ o θ θ,h.keep H γ⟩
def Ev(w:U)(r:Nat)(c:O)(l rest:Δ)(h:Rd w r c l rest)(i:l.j<=500)(k:Nat)(s:rest.j<=k):
  c_ e_ 100 #[(π r)] w λe q=>pJ (vJ k rest) w r c l e q:=by
 unfold vJ;split;rename_i d;exact MF w r c l rest h i d;rename_i a g d;have o:=ev d;split;rename_i j;have n:g.tail.j<k:=by simp;omega
 split;rename_i m;exact SJ w r c l rest h i g a k d j n m;rename_i b p m;split;rename_i f;exact Mb w r c l rest h i g p a b k d j n m f;rename_i f;exact Q8 w r c l rest h i g p a b k d j n m f;rename_i j;split;rename_i f;exact RB w r c l rest h i g a d j f;rename_i f;exact Rn w r c l rest h i g a d j f
end
section
open Go.Proofs.Tryz Go.RowKit
variable {lo:Nat}{w:U}{v:O}{r:List UA}{o:Option (List zd)}
def js(lo:Nat)(w:U):List zd->List O->Prop
 |[],a=>a=[]
 |c::e,a=>∃b d r,a=.i c.g.i::.g c.g.o::b::d::r/\U7 lo w b c.g.k/\Vd lo w d c.d/\js lo w e r
def js.snoc{w:U}{c:zd}{a vb:O}(hs:U7 lo w a c.g.k)(b:Vd lo w vb c.d):∀{ls:Ξ} {xs:Γ},js lo w ls xs->js lo w (ls++[c]) (xs++[.i c.g.i,.g c.g.o,a,vb])
 |[],_,h=>by simp only[js] at h;subst h;exact⟨a,vb,[],rfl,hs,b,rfl⟩
 |_::ls,_,h=>by obtain⟨v,g,r,rfl,d,f,e⟩:=h;exact⟨v,g,r++[.i c.g.i,.g c.g.o,a,vb],rfl,d,f,js.snoc hs b e⟩
def js.y{w w':U}(c:∀a l,U7 lo w a l->U7 lo w' a l)(b:∀a l,Vd lo w a l->Vd lo w' a l):∀{ls:Ξ} {xs:Γ},js lo w ls xs->js lo w' ls xs
 |[],_,h=>h
 |_::ls,_,h=>by obtain⟨v,g,r,rfl,d,f,e⟩:=h;exact⟨v,g,r,rfl,c _ _ d,b _ _ f,js.y c b e⟩
def js.at{w:U}:∀{ls:Ξ} {xs:Γ} (i:Nat) (c:zd),js lo w ls xs->ls[i]?=Z c →
  ∃d e,xs[i*4]?=Z (.i c.g.i)/\xs[i*4+1]?=Z (.g c.g.o)/\xs[i*4+2]?=Z d/\xs[i*4+3]?=Z e/\U7 lo w d c.g.k/\Vd lo w e c.d
 |[],_,i,a,_,b=>by simp at b
 |_::ls,_,0,a,h,b=>by obtain⟨v,k,r,rfl,f,j,g⟩:=h;simp at b;subst b;exact⟨v,k,rfl,rfl,rfl,rfl,f,j⟩
 |_::ls,_,i+1,a,h,b=>by
  obtain⟨v,k,r,rfl,f,j,g⟩:=h;obtain⟨d,e,n,q,m,l,p⟩:=js.at i a g (by simpa using b);refine⟨d,e,?_,?_,?_,?_,p⟩
  .rw[show(i+1)*4=i*4+1+1+1+1 from by omega];simpa using n
  .rw[show(i+1)*4+1=i*4+1+1+1+1+1 from by omega];simpa using q
  .rw[show(i+1)*4+2=i*4+2+1+1+1+1 from by omega];simpa using m
  .rw[show(i+1)*4+3=i*4+3+1+1+1+1 from by omega];simpa using l
def Vh(lo:Nat)(T:f_)(w:U)(v:O)(ls:List zd):Prop:=∃a,w.r lo T 4 v ls.j a/\js lo w ls a
def js.low{a b:Nat}{w:U}(c:a<=b):∀{ls:Ξ} {xs:Γ},js b w ls xs->js a w ls xs
 |[],_,h=>h
 |_::ls,_,h=>by obtain⟨v,g,r,rfl,d,f,e⟩:=h;exact⟨v,g,r,rfl,d.low c,f.low c,js.low c e⟩
def Vh.low{a b:Nat}{T:f_}{w:U}{v:O}{l:Ξ}(h:Vh b T w v l)(c:a<=b):Vh a T w v l:=by obtain⟨d,h,e⟩:=h;exact⟨d,yq h c,e.low c⟩
def Vh.qm{T:f_}{l:Ξ}(h:Vh lo T w v l):∃b a,v=.k b l.j a:=by obtain⟨c,h,_⟩:=h;exact zq h
def Vh.u{T:f_}{w w':U}{v:O}{l:Ξ}(h:Vh lo T w v l)(a:μ w w'):Vh lo T w' v l:=by
 obtain⟨b,h,c⟩:=h;exact⟨b,zy h a,c.y (λ_ _ k=>k.u a) (λ_ _ k=>k.u a)⟩
def Vd.push{c i:U}{b:Nat}{e:f_}{s:Nat}{v2:O}{n:Nat}{xs:Γ}{ls:Ω}(j:c.r b e s v n xs)(d:e≠90)(a:e≠9)(h:Vd lo c v2 ls)
  (g:∀k,k<c.o.q->Z k≠v.m->i.o[k]?=c.o[k]?):Vd lo i v2 ls:=by
 obtain⟨f,l,m⟩:=h;exact⟨f,fe j d l g,m.y λ_ _ k=>fe j a k g⟩
def yW(a:Nat):Nat->List UA->Option (List zd)
 |_,[]=>Z []
 |0,_::_=>Y
 |m+1,x::r=>match vJ a (x::r) with
  |none=>Y
  |some (c,b)=>(yW a m b).map (c::·)
def i7{a m:Nat}(b:r≠[])(h:vJ a r=Y):yW a (m+1) r=none:=by
 rcases r with _|⟨x,r⟩;exact zC rfl b;simp[yW,h]
def tR{a m:Nat}{r2:Δ}{c:zd}(b:r≠[])(h:vJ a r=Z (c,r2)):yW a (m+1) r=(yW a m r2).map (c::·):=by
 rcases r with _|⟨x,r⟩;exact zC rfl b;simp[yW,h]
def LL{n:Nat}:∀{r r2:Δ} {b:Ω},un n r=Z (b,r2)->r2.j<r.j:=by
 induction n with
 |zero=>intro r r2 b h;simp[un] at h
 |succ n g=>
  intro r r2 b h;rcases c:vm r with _|z;rw[tK c] at h;cases h;obtain⟨a,f⟩:=z;have:=CP c;by_cases e:US f=6;rw[rJ c e] at h;rcases d:un n f.tail with _|z;rw[d] at h;simp at h;rw[d] at h;simp at h;have:=g d;obtain⟨_,rfl⟩:=h;simp at this;omega;rw[sI c e] at h;simp at h;obtain⟨_,rfl⟩:=h;omega
def Qz{n:Nat}{r2:Δ}{c:zd}(h:vJ n r=Z (c,r2)):r2.j<r.j:=by
 unfold vJ at h;split at h;cases h;rename_i a f d;have:=ev d;split at h;split at h;cases h;rename_i b g e;have:=LL e;split at h<;>simp at h
 obtain⟨_,rfl⟩:=h;simp at this ⊢;omega;split at h<;>simp at h
 obtain⟨_,rfl⟩:=h;simp;omega
def PM(w:U)(r:Nat)(c:O)(l rest:Δ)(h:Rd w r c l rest)(i:l.j<=500)(b:Nat)(a:rest.j<=b)(j:vJ b rest=Y):
  c_ e_ 100 #[(π r)] w λe d=>e=ε (.B #[.agg #[.i false,.g g_,ν,ν],.i false])/\UF r w d:=by
 refine(Ev w r c l rest h i b a).y ?_;rintro e d ⟨g,f⟩;rw[j] at f;exact⟨f,g⟩
def QG(w:U)(r:Nat)(g:O)(l rest r2:Δ)(c:zd)(h:Rd w r g l rest)(q:l.j<=500)(j:Nat)(i:rest.j<=j)(s:vJ j rest=Z (c,r2)):
  c_ e_ 100 #[(π r)] w λe f=>∃k n,e=ε (.B #[.agg #[.i c.g.i,.g c.g.o,k,n],.i true])/\U7 w.o.q f k c.g.k/\Vd w.o.q f n c.d/\Rd f r g l r2/\UF r w f:=by
 refine(Ev w r g l rest h q j i).y ?_;rintro e f ⟨p,m⟩;rw[s] at m;obtain⟨v,t,a,b,c,d⟩:=m;exact⟨v,t,a,b,c,d,p⟩
def Us:(e_.info? 171).map (λi=>(i.zero,i.q,i.bytes))=Z (Z (.agg #[.i false,.g g_,ν,ν]),4,72):=χ
def BH(o:Option (List zd))(w:U)(e:Ending)(w':U):Prop:=
 μ w w'/\match o with
  |none=>e=ε (.B #[ν,.i false])
  |some a=>∃v,e=ε (.B #[v,.i true])/\Vh w.o.q 171 w' v a
def JF{w':U}(h:X (o=Y))(b:μ w w'):BH o w (ε (.B #[ν,.i false])) w':=by
 have a:o=none:=h;subst a;exact⟨b,rfl⟩
def Po{w':U}{cs:Ξ}(h:X (o=Z cs))(b:μ w w')(hs:Vh w.o.q 171 w' v cs):BH o w (ε (.B #[v,.i true])) w':=by
 have a:o=Z cs:=h;subst a;exact⟨b,v,rfl,hs⟩
def VO(w:U)(wv:O)(l:Δ)(A:Nat)(hw:w.r A 182 2 wv l.j (kC l))(hl:l.j<=500):
  c_ e_ 60 #[wv] w λe w'=>BH (yW l.j l.j l) w e w':=by
 obtain⟨i0,hi,ah,ac,am⟩:=info_parts Us;obtain⟨W,u,rfl⟩:=zq hw;have h0:Rd (w.C (.E #[.k W l.j u,ι 0] 185)) w.o.q (.k W l.j u) l l:=
  ⟨⟨0,zs _,rfl,U3.new _ _ _⟩,A,zy hw zQ⟩
 clear hw;go_enter func60,ntmps60;go_wp2;go_loopg [5] (l.j) (λn v wr=>∃(f:Ξ) (b:Δ) (m:Nat) (xs:Γ),b.j<=n/\b.j<=m/\b.j+f.j<=l.j ∧
   wr.r (w.o.q+1) 171 4 v f.j xs/\js w.o.q wr f xs/\Rd wr w.o.q (.k W l.j u) l b/\UF w.o.q (w.C (.E #[.k W l.j u,ι 0] 185)) wr ∧
   X (yW l.j l.j l=(yW l.j m b).map (f++·)))
 case atStart=>exact⟨[],l,l.j,[],ze _,ze _,ζ,xj _ _ _ _,rfl,h0,UF.refl _ _,(by simp[X])⟩
 obtain⟨f,b,m,xs,hn,hm,az,y,J,t,g,E⟩:=hrel;have I:w.o.q<=wr.o.q:=by have:=g.q;simp at this;omega
 obtain⟨c0,f0,d⟩:=t.cell;have ag:=U2 d;obtain⟨p,ax,ao,hp,F,aj,K,ar,a0,av,hx⟩:=t.view;clear aj hx K;rcases b with _|⟨x,r0⟩
 .have N:p=l.j:=by
   have:=congrArg L_ F;simp at this;omega
  have G:X (yW l.j l.j l=Z f):=by rw[X.out E];cases m<;>simp[yW,X]
  have R:=zQ.A (g.u (ze _) ζ);subst N;clear F E d;go_wp2;go_ret2
  exact Po G R ⟨_,yq y η,J⟩
 have N:p<l.j:=by
  rcases dE p l.j with h|h;exact h;rw[uk h] at F;cases F
 clear F;have s:x::r0≠[]:=ζ;obtain⟨m,rfl⟩:∃m',m=m'+1:=⟨m-1,by simp at hm;omega⟩;generalize x::r0=b at *;have HN:X (b.j<=l.j):=by unfold X;omega
 rcases D:vJ l.j b with _|z
 .have HC:=U2 D;have G:X (yW l.j l.j l=Y):=by rw[X.out E,i7 s D];simp[X]
  clear D s E;go_wp2_with (go_at_call 100;refine(PM _ w.o.q _ l b t hl l.j HN HC).y ?_;rintro e w1 ⟨rfl,a⟩;have i:=g.A a;have T:=i.q;have C:=zQ.A (i.u (ze _) ζ))
  go_ret2
  have aq:=C.q;exact JF G γ
 obtain⟨c,V⟩:=z;have HC:=U2 D;have au:=Qz D;have G:X (yW l.j l.j l=(yW l.j m V).map ((f++[c])++·)):=by rw[X.out E,tR s D,tH];rfl
 clear D s E;go_wp2_with (first|(go_at_call 100;refine(QG _ w.o.q _ l b V c t hl l.j HN HC).y ?_;rintro e w1 ⟨va,vb,rfl,M,P,af,a⟩;obtain⟨ak,ad,rfl⟩:=M.qm;obtain⟨aw,ay,rfl⟩:=P.qm;have i:=g.A a;have T:=i.q;have aa:=(by simpa using T);have j:=xJ y a d θ;have Q:=J.y (λ_ _ k=>k.but a d θ) (λ_ _ k=>k.but a d θ θ))|(at_builtin;refine kU w1 _ _ _ rfl (.tmp 22) (.tmp 24) 121 rfl (w.o.q+1) 171 i0 _ 4 72 underlying121 hi ah ac am rfl θ _ _ _ rfl j zQ _ _ rfl ζ rfl a_ η η aa ?_;intro v' w2 ab L an al q ap;clear an al;have S:=Rd.keep h0 af (by simpa using L);have B:=i.onto (by simpa using L);have ae:U7 w.o.q w2 (O.slice ak c.g.k.j ad) c.g.k:=yq (fe j θ M q) I;have ai:=(P.push j θ θ q).low I;have H:=Q.y (λ_ _ k=>fe j θ k q) (λ_ _ k=>k.push j θ θ q)))
 go_roundg V.j
 case measure=>omega
 exact⟨f++[c],V,m,_,ze _,η,by simp;omega,by rw[yB];exact ab,H.snoc ae ai,S,B,G⟩
end
section
open Go.Proofs.Tryz Go.RowKit
variable {lo:Nat}{l:κ}
def mj(t:Λ)(w:U):
  c_ e_ 156 #[.g t] w λe a=>e=ε (.i (zV t))/\a=w:=by
 unfold zV;by_cases h:0<t.q
 .rw[qK h];go_enter func156,ntmps156;go_wp2
  all_goals go_ret
  all_goals go_light
  all_goals exact⟨by simp_all [qA];try omega,rfl⟩
 rw[pR h];go_enter func156,ntmps156;go_wp2
 all_goals go_ret
 all_goals go_light
 all_goals exact⟨by simp_all [qA],rfl⟩
def U7.cell{w:U}{b:Option Addr}{n cap:Nat}{vs:List Λ}(h:U7 lo w (.k b n cap) vs)(k:Nat)(e:k<vs.j):∃g,b=Z (δ g)/\g<w.o.q/\w.p (ω g k)=Z (.g vs[k]):=by
 have f:=h;obtain⟨g,d,c,_,i,a⟩:=yt f η;simp at c;exact⟨g,c.1,i,a k _ (by simp[e])⟩
def yG:κ->ByteArray->Option Nat
 |[],_=>Y
 |y::r,n=>if y=n then Z 0 else(yG r n).map (·+1)
def l6(l:κ)(n:ByteArray):Int:=match yG l n with
 |none=>-1
 |some k=>k
def lM:∀{l:List Λ} {n:Λ} {k:Nat},yG l n=Z k->∃h:k<l.j,l[k]=n
 |[],_,_,h=>by simp[yG] at h
 |y::r,n,k,h=>by
  unfold yG at h;split at h
  .simp at h;subst h;exact⟨ζ,by simpa⟩
  .cases a:yG r n with
   |none=>rw[a] at h;simp at h
   |some j=>rw[a] at h;simp at h;subst h;obtain⟨b,c⟩:=lM a;exact⟨by simpa using b,by simpa using c⟩
def Af{n:Λ}{k:Nat}(b:k<l.j)(a:l[k]≠n):yG (l.drop k) n=(yG (l.drop (k+1)) n).map (·+1):=by rw[yK b,yG,za a]
def AL{n:Λ}{k:Nat}(a:k<l.j)(b:l[k]=n):yG (l.drop k) n=Z 0:=by rw[yK a,yG,zb b]
def oU:∀(l:List Λ) (n:Λ),(yG l n).I=yr n l
 |[],n=>by rw[sZ.2 ζ];rfl
 |y::r,n=>by
  unfold yG;by_cases e:y=n
  .rw[zb e,qq.2 (by simp[e])];rfl
  .rw[za e,Option.isSome_map,oU r n];cases h:yr n r with
   |true=>exact(qq.2 (pf _ (qq.1 h))).z
   |false=>exact(sZ.2 (by have:=sZ.1 h;simp[this,I_ e])).z
def SB(w:U)(vb:Nat)(f:O)(vs:List Λ)(t:Λ)(b:U3 w vb #[f] 246)(hs:U7 lo w f vs)(r:vs.j<=1000):
  c_ e_ 200 #[(π vb),.g t] w λe h=>e=ε (.B #[ι ((yG vs t).d 0:Nat),.i (yG vs t).I])/\h=w:=by
 obtain⟨s,q⟩:=b.H;obtain⟨p,j,rfl⟩:=hs.qm;go_enter func200,ntmps200;go_wp2;go_loop [13] (λi=>∃k:Nat,k<=vs.j/\i=ι k/\X (yG vs t=(yG (vs.drop k) t).map (·+k))) (λi=>vs.j-(d_ i).D);exact⟨0,zs _,rfl,by simp[X]⟩;obtain⟨k,o,rfl,H⟩:=hrel;by_cases a:k<vs.j
 .obtain⟨g,rfl,u,m⟩:=hs.cell k a;by_cases d:vs[k]=t
  .have n:=qH d;have c:X (yG vs t=Z k):=by rw[X,H.l,AL a d];simp
   go_wp2;go_ret2
   exact⟨by rw[c.l];rfl,rfl⟩
  have n:=vn d;have c:X (yG vs t=(yG (vs.drop (k+1)) t).map (·+(k+1))):=by
   rw[X,H.l,Af a d];cases yG (vs.drop (k+1)) t<;>simp;omega
  go_wp2;go_round;exact⟨k+1,η,ξ,c⟩;simp[d_];omega
 have c:X (yG vs t=Y):=by rw[X,H.l,uk η];rfl
 go_wp2;go_ret2
 exact⟨by rw[c.l];rfl,rfl⟩
def iO(w:U)(vb:Nat)(b:O)(vs:List Λ)(t:Λ)(a:U3 w vb #[b] 246)(hs:U7 lo w b vs)(f:vs.j<=1000):
  c_ e_ 183 #[(π vb),.g t] w λe d=>e=ε (.i (yr t vs))/\d=w:=by
 rw[←oU vs t];have c:=U2 (SB w vb b vs t a hs f);generalize yG vs t=o at *;go_enter func183,ntmps183;go_wp2_with (go_at_call 200;refine c.l.y ?_;rintro e d ⟨rfl,rfl⟩;clear c)
 go_ret;exact⟨rfl,rfl⟩
end
section
open Go.Proofs.Tryz Go.RowKit
variable {lo:Nat}{w:U}{c:Array O}{vs:κ}{t:ByteArray}
def U3.set{b:Nat}{T:f_}(h:U3 w b c T)(o:Nat)(u:O):U3 (w.x (ω b o) u) b (c.setIfInBounds o u) T:=by
 unfold U3 at *;simp[o_,t_,h]
def U3.set_ne{b b':Nat}{T:f_}(h:U3 w b c T)(a:b≠b')(o:Nat)(u:O):U3 (w.x (ω b' o) u) b c T:=by
 unfold U3 at *;rw[u_ _ _ _ _ a];exact h
def U3.push{d p:U}{b:Nat}{e T:f_}{s:Nat}{v:O}{n j:Nat}{xs:Γ}(u:d.r b e s v n xs)(f:e≠T)(h:U3 d j c T)
  (r:∀k,k<d.o.q->Z k≠v.m->p.o[k]?=d.o[k]?):U3 p j c T:=by
 have i:=h.lt;unfold U3 at *;rw[r j i ?_];exact h;intro g;obtain⟨_,⟨l,_⟩|⟨x,q,o,m,_,a,_⟩⟩:=u;subst l;cases g;subst m;simp only[n_,zt] at g;subst g;rw[h] at a;simp at a;exact f a.2.z
structure fK (vb:Nat) (w w':U):Prop where
 q:w.o.q<=w'.o.q
 box:∀b c T,b≠vb->T≠9->U3 w b c T->U3 w' b c T
def fK.refl(vb:Nat)(w:U):fK vb w w:=⟨ze _,λ_ _ _ _ _ h=>h⟩
def fK.A{vb:Nat}{a b c:U}(h:fK vb a b)(k:fK vb b c):fK vb a c:=⟨zX h.q k.q,λx y z d e f=>k.box x y z d e (h.box x y z d e f)⟩
def fK.of{vb:Nat}{w':U}(h:μ w w'):fK vb w w':=⟨h.q,λ_ _ _ _ _ k=>k.u h⟩
def VA(B:Nat)(w:U)(vb:Nat)(vs:κ):Prop:=∃a,U3 w vb #[a] 246/\w.r B 9 1 a vs.j (vs.map j_)
def VA.u{B:Nat}{w w':U}{vb:Nat}{vs:List Λ}(h:VA B w vb vs)(a:μ w w'):VA B w' vb vs:=by
 obtain⟨e,b,d⟩:=h;exact⟨e,b.u a,zy d a⟩
def G4(vs args:List Λ)(k:Nat)(a:k<args.j):xH vs (args.G (k+1))=km (xH vs (args.G k)) args[k]:=by
 unfold xH;rw[yF a,j4];rfl
def GT(a:zV t=true)(b:yr t vs=false):km vs t=vs++[t]:=by simp[km,a,b]
def GQ(a:zV t=false):km vs t=vs:=by simp[km,a]
def GM(a:yr t vs=true):km vs t=vs:=by simp[km,a]
def VS(d w:U)(vb:Nat)(vs args:List Λ)(neg:Bool)(q:Λ)(va:O)(h0:μ d w)(hs:U7 lo d va args)(J:VA d.o.q w vb vs)(R:d.o.q<=vb)(hl:vs.j+args.j<=1000):
  c_ e_ 182 #[(π vb),.agg #[.i neg,.g q,va]] w λe o=>e=ε (.B #[])/\VA d.o.q o vb (xH vs args)/\μ d o/\fK vb w o:=by
 obtain⟨i0,hi,G,K,M⟩:=info_parts Uw;obtain⟨ao,Q,rfl⟩:=hs.qm;have ab:=h0.q;go_enter func182,ntmps182;go_wp2;go_loopw [9] (λi wr=>∃k:Nat,k<=args.j/\i=ι k/\VA d.o.q wr vb (xH vs (args.G k))/\μ d wr/\fK vb w wr) (λi _=>args.j-(d_ i).D);have F:=(zn w.o.q w).C (ze _) (.E #[.i neg,.g q,.k ao args.j Q] 90);exact⟨0,zs _,rfl,J.u F,U6 h0 F,fK.of F⟩;obtain⟨k,hk,rfl,p,f,n⟩:=hrel;by_cases y:k<args.j
 .obtain⟨g,rfl,hg,ae⟩:=(hs.u f).cell k y;have E:=G4 vs args k y;have z:=rf (args.G k) vs;have A:(args.G k).j=k:=by simp;omega
  rw[A] at z;clear A;generalize args[k]=t at *;generalize xH vs (args.G k)=m at *;have u:=U2 E;clear E;cases V:zV t
  .have r:xH vs (args.G (k+1))=m:=by rw[u.l,GQ V]
   have x:=U2 r;clear r u;go_wp2_with (go_at_call 156;refine(mj _ _).y ?_;rintro e o ⟨rfl,rfl⟩)
   go_roundw;exact⟨k+1,η,ξ,by rw[x.l];exact p,f,n⟩;simp[d_];omega
  obtain⟨nv,l,a⟩:=p;obtain⟨af,aa,rfl⟩:=zq a;obtain⟨hc,hf⟩:=l.H;cases S:yr t m
  .have r:xH vs (args.G (k+1))=m++[t]:=by rw[u.l,GT V S]
   have x:=U2 r;clear r u;go_wp2_with (first|(go_at_call 156;refine(mj _ _).y ?_;rintro e o ⟨rfl,rfl⟩)|(go_at_call 183;refine(iO _ vb _ m t l a η).y ?_;rintro e o ⟨rfl,rfl⟩)|(at_builtin;refine kU _ _ _ _ rfl (.tmp 25) (.tmp 27) 30 rfl d.o.q 9 i0 _ 1 16 underlying30 hi G K M rfl θ _ _ _ rfl a (zn _ _) _ _ rfl ζ rfl a_ η η f.q ?_;intro v' L v N P H C B;clear P H;obtain⟨s,h,rfl⟩:=zq v;have j:=U3.push a θ l C;obtain⟨ac,ad⟩:=j.H))
   have I:fK vb o (L.x (δ vb) (.k s (m.j+1) h)):=⟨by simp[o_];exact B,λb c T h1 h2 h3=>(U3.push a (I_ h2) h3 C).set_ne h1 _ _⟩;have D:VA d.o.q (L.x (δ vb) (.k s (m.j+1) h)) vb (m++[t]):=⟨_,j.set 0 _,by
    have:=xJ v ((UF.refl vb L).x 0 (.k s (m.j+1) h)) j θ;simpa using this⟩
   go_roundw;exact⟨k+1,η,ξ,by rw[x.l];exact D,(f.A N).x R _,n.A I⟩;simp[d_];omega
  have r:xH vs (args.G (k+1))=m:=by rw[u.l,GM S]
  have x:=U2 r;clear r u;go_wp2_with (first|(go_at_call 156;refine(mj _ _).y ?_;rintro e o ⟨rfl,rfl⟩)|(go_at_call 183;refine(iO _ vb _ m t l a η).y ?_;rintro e o ⟨rfl,rfl⟩))
  go_roundw;exact⟨k+1,η,ξ,by rw[x.l];exact⟨_,l,a⟩,f,n⟩;simp[d_];omega
 have W:args.G k=args:=yO η;rw[W] at p;clear W;go_wp2;go_end0
 exact⟨rfl,p,f,n⟩
end
section
open Go.Proofs.Tryz Go.RowKit
variable {lo:Nat}
def Vd.cell{w:U}{e:Option Addr}{n cap:Nat}{ls:Ω}(h:Vd lo w (.k e n cap) ls)(k:Nat)(l:k<ls.j):∃g b a,e=Z (δ g)/\g<w.o.q ∧
  w.p (ω g (k*3))=Z (.i ls[k].i)/\w.p (ω g (k*3+1))=Z (.g ls[k].o)/\w.p (ω g (k*3+2))=Z (.k b ls[k].k.j a)/\U7 lo w (.k b ls[k].k.j a) ls[k].k:=by
 obtain⟨t,o,q⟩:=h;obtain⟨g,i,f,_,r,c⟩:=yt o η;simp at f;obtain⟨s,m,p,j,d⟩:=q.at k ls[k] (by simp[l]);obtain⟨b,a,rfl⟩:=d.qm;exact⟨g,b,a,f.1,r,c _ _ m,c _ _ p,c _ _ j,d⟩
def gO(vs:κ)(l:zk):κ:=xH vs l.k
def qz(vs:κ)(l:zk):κ:=if l.i then vs else xH vs l.k
def ux(c:zd):κ:=c.d.H gO (xH [] c.g.k)
def zu(c:zd):κ:=c.d.H qz []
def xn(ls:List zk):Nat:=ls.foldr (λl n=>l.k.j+n) 0
def tD(ls:Ω):∀k,k<ls.j->xn (ls.G k)+(ls[k]?.map (·.k.j)).d 0<=xn ls:=by
 induction ls with
 |nil=>intro k h;simp at h
 |cons a ls b=>
  intro k h;rcases k with _|k;simp[xn];have:=b k (by simpa using h);simp[xn] at this ⊢;omega
def Nb(ls:Ω)(a:zk):xn (ls++[a])=xn ls+a.k.j:=by
 induction ls with
 |nil=>simp[xn]
 |cons b ls c=>simp[xn] at c ⊢;omega
def DK(ls:Ω):∀vs:List Λ,(ls.H gO vs).j<=vs.j+xn ls:=by
 induction ls with
 |nil=>intro vs;simp[xn]
 |cons a ls b=>intro vs;have:=b (gO vs a);have:=rf a.k vs;simp[xn,gO] at *;omega
def sK(ls:Ω):∀vs:List Λ,(ls.H qz vs).j<=vs.j+xn ls:=by
 induction ls with
 |nil=>intro vs;simp[xn]
 |cons a ls b=>
  intro vs;have c:=b (qz vs a);have e:=rf a.k vs;have d:(qz vs a).j<=vs.j+a.k.j:=by unfold qz;split<;>omega
  simp[xn] at *;omega
def Ll(w:U)(c:zd)(V vb:O)(hs:U7 lo w V c.g.k)(N:Vd lo w vb c.d)(hl:c.g.k.j+xn c.d<=1000)(ac:c.d.j<=1000):
  c_ e_ 145 #[.agg #[.i c.g.i,.g c.g.o,V,vb]] w λe T=>∃L,e=ε (.agg #[L])/\T.r w.o.q 9 1 L (ux c).j ((ux c).map j_)/\μ w T:=by
 obtain⟨s,h,rfl⟩:=hs.qm;obtain⟨d,b,rfl⟩:=N.qm;have M:μ w (((w.C (.E #[.i c.g.i,.g c.g.o,.k s c.g.k.j h,.k d c.d.j b] 171)).C (.E #[ν] 246)).C (.E #[ν] 246)):=γ;have z:VA w.o.q (((w.C (.E #[.i c.g.i,.g c.g.o,.k s c.g.k.j h,.k d c.d.j b] 171)).C (.E #[ν] 246)).C (.E #[ν] 246)) (w.o.q+2) []:=⟨_,by have:=U3.new ((w.C (.E #[.i c.g.i,.g c.g.o,.k s c.g.k.j h,.k d c.d.j b] 171)).C (.E #[ν] 246)) #[ν] 246;simpa using this,xj _ _ _ _⟩;have x:U3 (((w.C (.E #[.i c.g.i,.g c.g.o,.k s c.g.k.j h,.k d c.d.j b] 171)).C (.E #[ν] 246)).C (.E #[ν] 246)) (w.o.q+1) #[ν] 246:=by have:=(U3.new (w.C (.E #[.i c.g.i,.g c.g.o,.k s c.g.k.j h,.k d c.d.j b] 171)) #[ν] 246).u ((zn _ _).C (ze _) (.E #[ν] 246));simpa using this
 have F:U3 (((w.C (.E #[.i c.g.i,.g c.g.o,.k s c.g.k.j h,.k d c.d.j b] 171)).C (.E #[ν] 246)).C (.E #[ν] 246)) w.o.q #[.i c.g.i,.g c.g.o,.k s c.g.k.j h,.k d c.d.j b] 171:=((U3.new w _ _).u zQ).u zQ;go_enter func145,ntmps145;go_wp2_with (go_at_call 182;refine(VS w _ (w.o.q+2) [] c.g.k _ _ _ (by exact M) hs (by exact z) η υ).y ?_;rintro e w1 ⟨rfl,j,r,m⟩;have f:=m.box _ _ _ η θ x;have B:=m.box _ _ _ η θ F;obtain⟨ae,ab,P⟩:=B.I)
 go_loopw [12] (λi wr=>∃k:Nat,k<=c.d.j/\i=ι k/\VA w.o.q wr (w.o.q+2) ((c.d.G k).H gO (xH [] c.g.k))/\μ w wr/\U3 wr (w.o.q+1) #[ν] 246) (λi _=>c.d.j-(d_ i).D);exact⟨0,zs _,rfl,j,r,f⟩;obtain⟨k,hk,rfl,u,o,t⟩:=hrel;have W:=o.q;by_cases l:k<c.d.j
 .obtain⟨g,aj,S,rfl,J,y,A,n,H⟩:=N.cell k l;have ah:=zi o J y;have ai:=zi o J A;have ag:=zi o J n;have ad:g<wr.o.q:=η;have R:=DK (c.d.G k) (xH [] c.g.k);have E:=tD c.d k l;have K:=rf c.g.k [];have D:(c.d.G (k+1)).H gO (xH [] c.g.k)=gO ((c.d.G k).H gO (xH [] c.g.k)) c.d[k]:=by rw[yF l,j4];rfl
  rw[yn l] at E;simp only[jY,uF] at E;clear y A n;generalize c.d[k]=a at *;generalize (c.d.G k).H gO (xH [] c.g.k)=vk at *;have HS:=U2 D;clear D;go_wp2_with (go_at_call 182;refine(VS w _ (w.o.q+2) vk a.k _ _ _ γ H (by exact u.u γ) η (by simp at *;omega)).y ?_;rintro e w1 ⟨rfl,j,r,m⟩;have f:=m.box _ _ _ η θ (t.u γ))
  go_roundw;exact⟨k+1,η,ξ,by rw[HS.l];exact j,r,f⟩;simp[d_];omega
 have Q:c.d.G k=c.d:=yO η;rw[Q] at u;obtain⟨L,C,p⟩:=u;obtain⟨G,q,rfl⟩:=zq p;obtain⟨hc,hf⟩:=C.H;obtain⟨n,aa⟩:=t.H;have af:=C.lt;clear Q;go_wp2;have I:=xJ p ((UF.refl (w.o.q+1) wr).x 0 (.k G (c.d.H gO (xH [] c.g.k)).j q)) t θ;exact zP (v:=.agg #[.k G (c.d.H gO (xH [] c.g.k)).j q]) (by simp[results,results145,go_sem,n]) rfl ⟨_,rfl,I,γ⟩
def iX(w:U)(c:zd)(va vb:O)(hs:U7 lo w va c.g.k)(R:Vd lo w vb c.d)(hl:c.g.k.j+xn c.d<=1000)(ad:c.d.j<=1000):
  c_ e_ 148 #[.agg #[.i c.g.i,.g c.g.o,va,vb]] w λe W=>∃P,e=ε (.agg #[P])/\W.r w.o.q 9 1 P (zu c).j ((zu c).map j_)/\μ w W:=by
 obtain⟨q,f,rfl⟩:=hs.qm;obtain⟨d,b,rfl⟩:=R.qm;have Q:μ w (((w.C (.E #[.i c.g.i,.g c.g.o,.k q c.g.k.j f,.k d c.d.j b] 171)).C (.E #[ν] 246)).C (.E #[ν] 246)):=γ;have y:VA w.o.q (((w.C (.E #[.i c.g.i,.g c.g.o,.k q c.g.k.j f,.k d c.d.j b] 171)).C (.E #[ν] 246)).C (.E #[ν] 246)) (w.o.q+2) []:=⟨_,by have:=U3.new ((w.C (.E #[.i c.g.i,.g c.g.o,.k q c.g.k.j f,.k d c.d.j b] 171)).C (.E #[ν] 246)) #[ν] 246;simpa using this,xj _ _ _ _⟩;have s:U3 (((w.C (.E #[.i c.g.i,.g c.g.o,.k q c.g.k.j f,.k d c.d.j b] 171)).C (.E #[ν] 246)).C (.E #[ν] 246)) (w.o.q+1) #[ν] 246:=by have:=(U3.new (w.C (.E #[.i c.g.i,.g c.g.o,.k q c.g.k.j f,.k d c.d.j b] 171)) #[ν] 246).u ((zn _ _).C (ze _) (.E #[ν] 246));simpa using this
 have ab:U3 (((w.C (.E #[.i c.g.i,.g c.g.o,.k q c.g.k.j f,.k d c.d.j b] 171)).C (.E #[ν] 246)).C (.E #[ν] 246)) w.o.q #[.i c.g.i,.g c.g.o,.k q c.g.k.j f,.k d c.d.j b] 171:=((U3.new w _ _).u zQ).u zQ;go_enter func148,ntmps148;go_wp2;go_loopw [9] (λi wr=>∃k:Nat,k<=c.d.j/\i=ι k/\VA w.o.q wr (w.o.q+2) ((c.d.G k).H qz [])/\μ w wr/\U3 wr (w.o.q+1) #[ν] 246) (λi _=>c.d.j-(d_ i).D);exact⟨0,zs _,rfl,y,Q,s⟩;obtain⟨k,hk,rfl,l,n,j⟩:=hrel;have aa:=n.q;by_cases h:k<c.d.j
 .obtain⟨g,ai,V,rfl,L,x,z,m,G⟩:=R.cell k h;have D:=zi n L x;have ah:=zi n L z;have ag:=zi n L m;have ae:g<wr.o.q:=η;have T:=sK (c.d.G k) [];have C:=tD c.d k h;have N:True:=trivial;have B:(c.d.G (k+1)).H qz []=qz ((c.d.G k).H qz []) c.d[k]:=by rw[yF h,j4];rfl
  rw[yn h] at C;simp only[jY,uF] at C;clear x z m;generalize c.d[k]=a at *;generalize (c.d.G k).H qz []=K at *;have F:=U2 B;clear B;cases t:a.i
  .rw[t] at D;have I:X ((c.d.G (k+1)).H qz []=xH K a.k):=by rw[X,F.l,qz,t];rfl
   clear F t;go_wp2_with (go_at_call 182;refine(VS w _ (w.o.q+2) K a.k _ _ _ γ G (by exact l.u γ) η (by simp at *;omega)).y ?_;rintro e w1 ⟨rfl,u,J,M⟩;have r:=M.box _ _ _ η θ (j.u γ))
   go_roundw;exact⟨k+1,η,ξ,by rw[I.l];exact u,J,r⟩;simp[d_];omega
  rw[t] at D;have I:X ((c.d.G (k+1)).H qz []=K):=by rw[X,F.l,qz,t,zb rfl]
  clear F t;go_wp2;go_roundw;exact⟨k+1,η,ξ,by rw[I.l];exact l.u γ,γ,j.u γ⟩;simp[d_];omega
 have S:c.d.G k=c.d:=yO η;rw[S] at l;obtain⟨P,A,o⟩:=l;obtain⟨E,p,rfl⟩:=zq o;obtain⟨hc,hf⟩:=A.H;obtain⟨m,ac⟩:=j.H;have af:=A.lt;clear S;go_wp2;have H:=xJ o ((UF.refl (w.o.q+1) wr).x 0 (.k E (c.d.H qz []).j p)) j θ;exact zP (v:=.agg #[.k E (c.d.H qz []).j p]) (by simp[results,results148,go_sem,m]) rfl ⟨_,rfl,H,γ⟩
def Wn(w:U)(vb:Nat)(b:O)(vs:List Λ)(a:U3 w vb #[b] 246)(hs:U7 lo w b vs):
  c_ e_ 146 #[(π vb)] w λe d=>e=ε (ι vs.j)/\d=w:=by
 obtain⟨h,g⟩:=a.H;obtain⟨f,c,rfl⟩:=hs.qm;go_enter func146,ntmps146;go_wp2;go_ret;exact⟨rfl,rfl⟩
def qW(vs args:κ):Bool:=args.all λt=>!zV t||yr t vs
def Aq{α:Type}(l:List α)(p:α->Bool)(k:Nat)(a:k<l.j):(l.drop k).all p=(p l[k]&&(l.drop (k+1)).all p):=by rw[yK a,List.all_cons]
def Ck{α:Type}(l:List α)(p:α->Bool)(k:Nat)(a:k<l.j):(l.drop k).any p=(p l[k]||(l.drop (k+1)).any p):=by rw[yK a,List.any_cons]
def eK(w:U)(vb:Nat)(v:O)(vs args:List Λ)(neg:Bool)(c:Λ)(u:O)(l:U3 w vb #[v] 246)(A:U7 lo w v vs){m:Nat}(hs:U7 m w u args)(s:vs.j<=1000)(z:args.j<=1000):
  c_ e_ 149 #[(π vb),.agg #[.i neg,.g c,u]] w λe f=>e=ε (.i (qW vs args))/\μ w f:=by
 obtain⟨y,p,rfl⟩:=hs.qm;have b:=(zn w.o.q w).C (ze _) (.E #[.i neg,.g c,.k y args.j p] 90);have a:=l.u b;have h:=A.u b;go_enter func149,ntmps149;go_wp2;go_loop [10] (λi=>∃k:Nat,k<=args.j/\i=ι k/\X (qW vs args=(args.drop k).all λt=>!zV t||yr t vs)) (λi=>args.j-(d_ i).D);exact⟨0,zs _,rfl,rfl⟩;obtain⟨k,C,rfl,H⟩:=hrel;by_cases j:k<args.j
 .obtain⟨g,rfl,D,B⟩:=hs.cell k j;have o:=Aq args (λt=>!zV t||yr t vs) k j;generalize args[k]=x at *;have n:X (qW vs args=((!zV x||yr x vs)&&(args.drop (k+1)).all λt=>!zV t||yr t vs)):=by rw[X,H.l,o]
  cases r:zV x
  .have d:X (qW vs args=(args.drop (k+1)).all λt=>!zV t||yr t vs):=by rw[X,n.l,r];rfl
   go_wp2_with (go_at_call 156;refine(mj _ _).y ?_;rintro e f ⟨rfl,rfl⟩)
   go_round;exact⟨k+1,η,ξ,d⟩;simp[d_];omega
  cases q:yr x vs
  .have d:X (qW vs args=false):=by rw[X,n.l,q,r];rfl
   go_wp2_with (first|(go_at_call 156;refine(mj _ _).y ?_;rintro e f ⟨rfl,rfl⟩)|(go_at_call 183;refine(iO _ vb _ vs x a h s).y ?_;rintro e f ⟨rfl,rfl⟩))
   go_ret;exact⟨by rw[d.l];rfl,b⟩
  have d:X (qW vs args=(args.drop (k+1)).all λt=>!zV t||yr t vs):=by rw[X,n.l,q];simp
  go_wp2_with (first|(go_at_call 156;refine(mj _ _).y ?_;rintro e f ⟨rfl,rfl⟩)|(go_at_call 183;refine(iO _ vb _ vs x a h s).y ?_;rintro e f ⟨rfl,rfl⟩))
  go_round;exact⟨k+1,η,ξ,d⟩;simp[d_];omega
 have d:X (qW vs args=true):=by rw[X,H.l,uk η];rfl
 go_wp2;go_ret;exact⟨by rw[d.l];rfl,b⟩
def yT(c:zd):Bool:=decide (3<c.g.k.j)||decide (6<c.d.j)||c.d.any (λl=>decide (3<l.k.j))||decide (5<(ux c).j)
def xu(c:zd):Bool:=qW (zu c) c.g.k&&c.d.all λl=>!l.i||qW (zu c) l.k
def DW(w:U)(c:zd)(G vb:O)(hs:U7 lo w G c.g.k)(y:Vd lo w vb c.d)(hl:c.g.k.j+xn c.d<=1000)(C:c.d.j<=1000):
  c_ e_ 101 #[.agg #[.i c.g.i,.g c.g.o,G,vb]] w λe w'=>e=ε (.i (yT c))/\μ w w':=by
 have h:=λW B F=>Ll (lo:=lo) W c G vb B F hl C;obtain⟨S,J,rfl⟩:=hs.qm;obtain⟨z,p,rfl⟩:=y.qm;have r:=U2 h;clear h;by_cases d:3<c.g.k.j∨6<c.d.j
 .have j:X (yT c=true):=by unfold X yT;rcases d with d|d<;>simp[d]
  go_enter func101,ntmps101;rcases d with d|d
  .go_wp2;go_ret;exact⟨by rw[j.l];rfl,γ⟩
  by_cases N:3<c.g.k.j
  all_goals
   go_wp2;go_ret;exact⟨by rw[j.l];rfl,γ⟩
 have N:¬3<c.g.k.j:=η;have h6:¬6<c.d.j:=η;have j:X (yT c=(c.d.any (λl=>decide (3<l.k.j))||decide (5<(ux c).j))):=by unfold X yT;simp[N,h6]
 clear d;go_enter func101,ntmps101;go_wp2;go_loopw [20] (λi wr=>∃k:Nat,k<=c.d.j/\i=ι k/\μ w wr/\U3 wr w.o.q #[.i c.g.i,.g c.g.o,.k S c.g.k.j J,.k z c.d.j p] 171/\X (yT c=((c.d.drop k).any (λl=>decide (3<l.k.j))||decide (5<(ux c).j)))) (λi _=>c.d.j-(d_ i).D);exact⟨0,zs _,rfl,γ,U3.new _ _ _,j⟩;obtain⟨k,hk,rfl,b,s,H⟩:=hrel;have P:=b.q;by_cases o:k<c.d.j
 .obtain⟨g,ad,M,rfl,E,m,q,t,x⟩:=y.cell k o;have ab:=zi b E m;have ac:=zi b E q;have aa:=zi b E t;have T:g<wr.o.q:=η;have u:=Ck c.d (λl=>decide (3<l.k.j)) k o;clear m q t x;generalize c.d[k]=a at *;have v:X (yT c=(decide (3<a.k.j)||(c.d.drop (k+1)).any (λl=>decide (3<l.k.j))||decide (5<(ux c).j))):=by rw[X,H.l,u]
  clear u H j;by_cases L:3<a.k.j
  .have n:X (yT c=true):=by rw[X,v.l];simp[L]
   clear v;go_wp2;go_ret;exact⟨by rw[n.l];rfl,γ⟩
  have n:X (yT c=((c.d.drop (k+1)).any (λl=>decide (3<l.k.j))||decide (5<(ux c).j))):=by rw[X,v.l];simp[L]
  clear v;go_wp2;go_roundw;exact⟨k+1,η,ξ,γ,s.u γ,n⟩;simp[d_];omega
 have n:X (yT c=decide (5<(ux c).j)):=by rw[X,H.l,uk η];simp
 have K:=hs.u b;have I:=y.u b;obtain⟨hc,hf,Q⟩:=s.I;clear H j;go_wp2_with (first|(go_at_call 145;refine(r.l _ K I).y ?_;rintro e w1 ⟨nv,rfl,f,A⟩;obtain⟨ae,R,rfl⟩:=zq f;have D:=U6 b A;have V:=D.q)|(go_at_call 146;refine(Wn _ _ _ (ux c) (by exact U3.new _ _ _) (by exact zy f γ)).y ?_;rintro e w2 ⟨rfl,rfl⟩))
 go_ret;exact⟨by rw[n.l];simp;omega,γ⟩
def Hu(w:U)(c:zd)(va vb:O)(hs:U7 lo w va c.g.k)(V:Vd lo w vb c.d)(hl:c.g.k.j+xn c.d<=1000)(ad:c.d.j<=1000):
  c_ e_ 103 #[.agg #[.i c.g.i,.g c.g.o,va,vb]] w λe w'=>e=ε (.i (xu c))/\μ w w':=by
 have u:=λW ac af=>iX (lo:=lo) W c va vb ac af hl ad;obtain⟨ao,ap,rfl⟩:=hs.qm;obtain⟨ak,ah,rfl⟩:=V.qm;have v:=U2 u;clear u;have s:(zu c).j<=1000:=by have:=sK c.d [];unfold zu;simp at this;omega
 have o:∀k (hk:k<c.d.j),c.d[k].k.j<=1000:=λk hk=>by
  have:=tD c.d k hk;rw[yn hk] at this;simp at this;omega
 have E:=U2 o;clear o;cases hH:qW (zu c) c.g.k
 .have L:X (xu c=false):=by unfold X xu;simp[hH]
  go_enter func103,ntmps103;go_wp2_with (first|(go_at_call 148;refine(v.l _ (by exact hs.u γ) (by exact V.u γ)).y ?_;rintro e w1 ⟨nv,rfl,b,n⟩;obtain⟨I,p,rfl⟩:=zq b;have h:=U6 zQ n;have C:=h.q;have j:=(U3.new w _ _).u n;obtain⟨ae,ab,T⟩:=j.I)|(go_at_call 149;refine(eK _ _ _ (zu c) c.g.k _ _ _ (by exact U3.new _ _ _) (by exact zy b γ) (by exact(hs.u h).u γ) s η).y ?_;rintro e w2 ⟨rfl,f⟩;have D:=U6 (h.C C _) f))
  go_ret;exact⟨by rw[L.l];rfl,D⟩
 have L:X (xu c=c.d.all λl=>!l.i||qW (zu c) l.k):=by unfold X xu;simp[hH]
 go_enter func103,ntmps103;go_wp2_with (first|(go_at_call 148;refine(v.l _ (by exact hs.u γ) (by exact V.u γ)).y ?_;rintro e w1 ⟨nv,rfl,b,n⟩;obtain⟨I,p,rfl⟩:=zq b;have h:=U6 zQ n;have C:=h.q;have j:=(U3.new w _ _).u n;obtain⟨ae,ab,T⟩:=j.I)|(go_at_call 149;refine(eK _ _ _ (zu c) c.g.k _ _ _ (by exact U3.new _ _ _) (by exact zy b γ) (by exact(hs.u h).u γ) s η).y ?_;rintro e w2 ⟨rfl,f⟩;have D:=U6 (h.C C _) f;have aa:=f.q;simp only[q_] at aa;have Q:=(j.u zQ).u f;obtain⟨an,al,ag⟩:=Q.I;have P:=(U3.new w1 _ _).u f;have G:=zy (zy b zQ) f))
 go_loopw [15] (λi wr=>∃k:Nat,k<=c.d.j/\i=ι k/\μ w wr/\U3 wr w1.o.q #[.k I (zu c).j p] 246/\U7 0 wr (.k I (zu c).j p) (zu c)/\X (xu c=(c.d.drop k).all λl=>!l.i||qW (zu c) l.k)) (λi _=>c.d.j-(d_ i).D);exact⟨0,zs _,rfl,D,P,yq G (zs _),L⟩;obtain⟨k,hk,rfl,d,r,q,H⟩:=hrel;have aj:=d.q;by_cases B:k<c.d.j
 .obtain⟨g,au,ai,rfl,hg,M,y,x,K⟩:=V.cell k B;have S:=zi d hg M;have aq:=zi d hg y;have ar:=zi d hg x;have am:g<wr.o.q:=η;have R:=Aq c.d (λl=>!l.i||qW (zu c) l.k) k B;have t:=K.u d;have N:=E.l k B;clear M y x K;generalize c.d[k]=a at *;have J:X (xu c=((!a.i||qW (zu c) a.k)&&(c.d.drop (k+1)).all λl=>!l.i||qW (zu c) l.k)):=by rw[X,H.l,R]
  clear R H L;cases F:a.i
  .have A:X (xu c=(c.d.drop (k+1)).all λl=>!l.i||qW (zu c) l.k):=by rw[X,J.l,F];rfl
   rw[F] at S;clear J F;go_wp2;go_roundw;exact⟨k+1,η,ξ,γ,r.u γ,q.u γ,A⟩;simp[d_];omega
  rw[F] at S;cases hC:qW (zu c) a.k
  .have A:X (xu c=false):=by rw[X,J.l,hC,F];rfl
   clear J F;go_wp2_with (go_at_call 149;refine(eK _ _ _ (zu c) a.k _ _ _ (by exact r.u γ) (by exact q.u γ) (by exact t.u γ) s N).y ?_;rintro e w3 ⟨rfl,z⟩;have m:=U6 ((zn wr.o.q wr).C (ze _) _) z)
   go_ret;exact⟨by rw[A.l];rfl,U6 d m⟩
  have A:X (xu c=(c.d.drop (k+1)).all λl=>!l.i||qW (zu c) l.k):=by rw[X,J.l,hC];simp
  clear J F;go_wp2_with (go_at_call 149;refine(eK _ _ _ (zu c) a.k _ _ _ (by exact r.u γ) (by exact q.u γ) (by exact t.u γ) s N).y ?_;rintro e w3 ⟨rfl,z⟩;have m:=U6 ((zn wr.o.q wr).C (ze _) _) z)
  go_roundw;exact⟨k+1,η,ξ,U6 d m,r.u m,q.u m,A⟩;simp[d_];omega
 have A:X (xu c=true):=by rw[X,H.l,uk η];rfl
 clear H L;go_wp2;go_ret;exact⟨by rw[A.l];rfl,d⟩
def Vh.cell{T:f_}{w:U}{i:Option Addr}{n cap:Nat}{cs:Ξ}(h:Vh lo T w (.k i n cap) cs)(k:Nat)(o:k<cs.j):∃g d a e b,i=Z (δ g)/\g<w.o.q ∧
  w.p (ω g (k*4))=Z (.i cs[k].g.i)/\w.p (ω g (k*4+1))=Z (.g cs[k].g.o)/\w.p (ω g (k*4+2))=Z (.k d cs[k].g.k.j a) ∧
  w.p (ω g (k*4+3))=Z (.k e cs[k].d.j b)/\U7 lo w (.k d cs[k].g.k.j a) cs[k].g.k/\Vd lo w (.k e cs[k].d.j b) cs[k].d:=by
 obtain⟨x,t,q⟩:=h;obtain⟨g,m,l,_,u,c⟩:=yt t η;simp at l;obtain⟨z,y,p,r,v,s,j,f⟩:=q.at k cs[k] (by simp[o]);obtain⟨d,a,rfl⟩:=j.qm;obtain⟨e,b,rfl⟩:=f.qm;exact⟨g,d,a,e,b,l.1,u,c _ _ p,c _ _ r,c _ _ v,c _ _ s,j,f⟩
def vV(c:zd):Prop:=c.g.k.j+xn c.d<=1000/\c.d.j<=1000
def wE(w:U)(v:O)(cs:Ξ)(p:Vh lo 171 w v cs)(x:∀c∈cs,vV c)(V:cs.j<=1000):
  c_ e_ 61 #[v] w λe K=>e=ε (.i (cs.any yT))/\μ w K:=by
 obtain⟨T,N,rfl⟩:=p.qm;have t:=U2 x;go_enter func61,ntmps61;go_wp2;go_loopw [7] (λi wr=>∃k:Nat,k<=cs.j/\i=ι k/\μ w wr/\X (cs.any yT=(cs.drop k).any yT)) (λi _=>cs.j-(d_ i).D);exact⟨0,zs _,rfl,zn _ _,rfl⟩;obtain⟨k,S,rfl,b,H⟩:=hrel;have F:=b.q;by_cases j:k<cs.j
 .have B:=Ck cs yT k j;obtain⟨g,Q,D,R,G,rfl,q,s,u,A,y,r,z⟩:=p.cell k j;have M:=zi b q s;have P:=zi b q u;have L:=zi b q A;have J:=zi b q y;have f:=r.u b;have d:=z.u b;obtain⟨n,o⟩:=t.l _ (zr j);generalize cs[k]=a at *;have E:X (cs.any yT=(yT a||(cs.drop (k+1)).any yT)):=by rw[X,H.l,B]
  cases C:yT a
  .have m:X (cs.any yT=(cs.drop (k+1)).any yT):=by rw[X,E.l,C];rfl
   go_wp2_with (go_at_call 101;refine(DW _ a _ _ (by exact f.u γ) (by exact d.u γ) n o).y ?_;rintro e I ⟨rfl,h⟩;have l:=U6 ((zn wr.o.q wr).C (ze _) _) h)
   go_roundw;exact⟨k+1,η,ξ,U6 b l,m⟩;simp[d_];omega
  have m:X (cs.any yT=true):=by rw[X,E.l,C];rfl
  go_wp2_with (go_at_call 101;refine(DW _ a _ _ (by exact f.u γ) (by exact d.u γ) n o).y ?_;rintro e I ⟨rfl,h⟩;have l:=U6 ((zn wr.o.q wr).C (ze _) _) h)
  go_ret;exact⟨by rw[m.l];rfl,U6 b l⟩
 have m:X (cs.any yT=false):=by rw[X,H.l,uk η];rfl
 go_wp2;go_ret;exact⟨by rw[m.l];rfl,b⟩
def B8(w:U)(v:O)(cs:Ξ)(p:Vh lo 171 w v cs)(x:∀c∈cs,vV c)(V:cs.j<=1000):
  c_ e_ 63 #[v] w λe K=>e=ε (.i (cs.all xu))/\μ w K:=by
 obtain⟨T,N,rfl⟩:=p.qm;have t:=U2 x;go_enter func63,ntmps63;go_wp2;go_loopw [7] (λi wr=>∃k:Nat,k<=cs.j/\i=ι k/\μ w wr/\X (cs.all xu=(cs.drop k).all xu)) (λi _=>cs.j-(d_ i).D);exact⟨0,zs _,rfl,zn _ _,rfl⟩;obtain⟨k,S,rfl,b,H⟩:=hrel;have F:=b.q;by_cases j:k<cs.j
 .have B:=Aq cs xu k j;obtain⟨g,Q,D,R,G,rfl,q,s,u,A,y,r,z⟩:=p.cell k j;have M:=zi b q s;have P:=zi b q u;have L:=zi b q A;have J:=zi b q y;have f:=r.u b;have d:=z.u b;obtain⟨n,o⟩:=t.l _ (zr j);generalize cs[k]=a at *;have E:X (cs.all xu=(xu a&&(cs.drop (k+1)).all xu)):=by rw[X,H.l,B]
  cases C:xu a
  .have m:X (cs.all xu=false):=by rw[X,E.l,C];rfl
   go_wp2_with (go_at_call 103;refine(Hu _ a _ _ (by exact f.u γ) (by exact d.u γ) n o).y ?_;rintro e I ⟨rfl,h⟩;have l:=U6 ((zn wr.o.q wr).C (ze _) _) h)
   go_ret;exact⟨by rw[m.l];rfl,U6 b l⟩
  have m:X (cs.all xu=(cs.drop (k+1)).all xu):=by rw[X,E.l,C];rfl
  go_wp2_with (go_at_call 103;refine(Hu _ a _ _ (by exact f.u γ) (by exact d.u γ) n o).y ?_;rintro e I ⟨rfl,h⟩;have l:=U6 ((zn wr.o.q wr).C (ze _) _) h)
  go_roundw;exact⟨k+1,η,ξ,U6 b l,m⟩;simp[d_];omega
 have m:X (cs.all xu=true):=by rw[X,H.l,uk η];rfl
 go_wp2;go_ret;exact⟨by rw[m.l];rfl,b⟩
end
section
open Go.Proofs.Tryz Go.RowKit
structure zf where
 name:ByteArray
 jh:Nat
 L:Nat
abbrev Ψ:=List zf
def UU(a b:ByteArray):Bool:=Op.bytesLess a.v b.v
def zM:List zf->ByteArray->Nat
 |[],_=>0
 |e::r,n=>if UU e.name n then zM r n+1 else 0
def tG:∀(t:Ψ) (n:Λ),zM t n<=t.j
 |[],_=>ze _
 |e::r,n=>by have:=tG r n;unfold zM;split<;>simp<;>omega
def Bm:∀(t:Ψ) (n:Λ) (k:Nat),(∀j (b:j<t.j),j<k->UU t[j].name n=true)->k<=t.j->zM t n=k+zM (t.drop k) n
 |[],n,k,_,a=>by simp at a;subst a;simp
 |e::r,n,0,_,_=>ζ
 |e::r,n,k+1,h,a=>by
  have c:=h 0 ζ η;simp at c;have:=Bm r n k (λj b d=>by have:=h (j+1) (by simpa using b) η;simpa using this) (by simpa using a);simp[zM,c];omega
def Av(t:Ψ)(n:Λ)(k:Nat)(h:∀j (c:j<t.j),j<k->UU t[j].name n=true)(a:k<t.j)(b:UU t[k].name n=false):zM t n=k:=by
 rw[Bm t n k h η,yK a,zM,b];rfl
def AG(t:Ψ)(n:Λ)(h:∀j (a:j<t.j),UU t[j].name n=true):zM t n=t.j:=by
 rw[Bm t n t.j (λj a _=>h j a) (ze _)];simp[zM]
def uh(t:List zf):List Value:=t.flatMap λe=>[.g e.name,ι (e.jh:Int),ι (e.L:Int)]
def Cq(t:Ψ):(uh t).j=t.j*3:=by
 induction t with
 |nil=>rfl
 |cons a t b=>simp[uh] at b ⊢;omega
def Ej:∀(t:Ψ) (k:Nat) (a:k<t.j),(uh t)[k*3]?=Z (.g t[k].name)/\(uh t)[k*3+1]?=Z (ι (t[k].jh:Int))/\(uh t)[k*3+2]?=Z (ι (t[k].L:Int))
 |[],k,a=>by simp at a
 |e::r,0,_=>by simp[uh]
 |e::r,k+1,a=>by
  have:=Ej r k (by simpa using a);simp only[uh,uZ] at this ⊢;rw[show(k+1)*3=k*3+1+1+1 from by omega,show k*3+1+1+1+1=k*3+1+1+1+1 from rfl,show k*3+1+1+1+2=k*3+2+1+1+1 from by omega];simpa using this
def TA(B:Nat)(w:U)(tb:Nat)(t:List zf):Prop:=∃a,U3 w tb #[a] 127/\w.r B 221 3 a t.j (uh t)
def TA.u{B:Nat}{w w':U}{tb:Nat}{t:Ψ}(h:TA B w tb t)(a:μ w w'):TA B w' tb t:=by
 obtain⟨d,b,c⟩:=h;exact⟨d,b.u a,zy c a⟩
def TA.view{B:Nat}{w:U}{tb:Nat}{t:Ψ}(h:TA B w tb t):∃b a,U3 w tb #[.k b t.j a] 127/\w.r B 221 3 (.k b t.j a) t.j (uh t):=by
 obtain⟨e,d,c⟩:=h;obtain⟨b,a,rfl⟩:=zq c;exact⟨b,a,d,c⟩
def j9{B:Nat}{w:U}{b:Option Addr}{n cap:Nat}{t:Ψ}(h:w.r B 221 3 (.k b n cap) t.j (uh t))(k:Nat)(f:k<t.j):∃g,b=Z (δ g)/\g<w.o.q/\B<=g ∧
  w.p (ω g (k*3))=Z (.g t[k].name)/\w.p (ω g (k*3+1))=Z (ι (t[k].jh:Int))/\w.p (ω g (k*3+2))=Z (ι (t[k].L:Int)):=by
 obtain⟨g,d,c,i,m,a⟩:=yt h η;simp at c;obtain⟨j,l,e⟩:=Ej t k f;exact⟨g,c.1,m,i,a _ _ j,a _ _ l,a _ _ e⟩
def iu(B:Nat)(w:U)(tb:Nat)(t:Ψ)(n:Λ)(h:TA B w tb t)(v:t.j<=1000):
  c_ e_ 126 #[(π tb),.g n] w λe o=>e=ε (ι (zM t n))/\o=w:=by
 obtain⟨s,q,l,d⟩:=h.view;obtain⟨x,u⟩:=l.H;go_enter func126,ntmps126;go_wp2;go_loop [5] (λi=>∃k:Nat,k<=t.j/\i=ι k/\X (∀j (a:j<t.j),j<k->UU t[j].name n=true)) (λi=>t.j-(d_ i).D);exact⟨0,zs _,rfl,λj a h=>η⟩;obtain⟨k,r,rfl,H⟩:=hrel;by_cases c:k<t.j
 .obtain⟨g,rfl,y,_,p,_,_⟩:=j9 d k c;cases f:UU t[k].name n
  .have b:=U2 (Av t n k H.l c f);unfold UU at f;go_wp2;go_ret;exact⟨by rw[b.l];rfl,rfl⟩
  have b:X (∀j (a:j<t.j),j<k+1->UU t[j].name n=true):=λj a h=>by
   rcases dE j k with m|m;exact H.l j a m;obtain rfl:j=k:=η;exact f
  unfold UU at f;go_wp2;go_round;exact⟨k+1,η,ξ,b⟩;simp[d_];omega
 have b:X (zM t n=k):=by
  have:=AG t n (λj a=>H.l j a η);unfold X;omega
 go_wp2;go_ret;exact⟨by rw[b.l];rfl,rfl⟩
end
section
open Go.Proofs.Tryz Go.RowKit
variable {xs:List O}
def uv{w:U}{a:Nat}{e:f_}{b g n cap m:Nat}(h:w.r a e b (.k (Z (δ g)) n cap) m xs)(o:Nat):w.frozen? (ω g o)=false:=by
 obtain⟨_,⟨c,_⟩|⟨j,d,i,c,_,f,_⟩⟩:=h;cases c;simp at c;obtain⟨rfl,_⟩:=c;unfold U.frozen?;rw[f];simp
def um{w:U}{a:Nat}{e:f_}{b g n cap m:Nat}(h:w.r a e b (.k (Z (δ g)) n cap) m xs)(j:Nat)(_:j<xs.j)(u:O):
  (w.x (ω g j) u).r a e b (.k (Z (δ g)) n cap) m (xs.set j u):=by
 obtain⟨p,⟨c,_⟩|⟨s,f,d,c,r,i,k,q,l,o⟩⟩:=h;cases c;simp at c;obtain⟨rfl,rfl,rfl⟩:=c;refine⟨by simpa using p,zg ⟨g,cap,d.setIfInBounds j u,rfl,r,?_,k,q,by simpa using l,?_⟩⟩;simp[o_,t_,i];rw[←o];rw[Array.toList_setIfInBounds,List.take_set]
def zO(t:List zf)(n:ByteArray):Option zf:=match t[zM t n]? with
 |none=>Y
 |some e=>if e.name=n then Z e else Y
def qr{t:Ψ}{n:Λ}{e:zf}(h:zO t n=Z e):∃b:zM t n<t.j,t[zM t n]=e/\e.name=n:=by
 unfold zO at h;split at h;cases h;rename_i c a;split at h<;>simp at h
 subst h;obtain⟨b,a⟩:=jB.1 a;exact⟨b,a,by assumption⟩
def tX{t:Ψ}{n:Λ}(h:zO t n=Y):¬zM t n<t.j∨∃b:zM t n<t.j,t[zM t n].name≠n:=by
 unfold zO at h;split at h;rename_i a;left;rw[List.getElem?_eq_none_iff] at a;omega;rename_i e a;split at h<;>simp at h
 obtain⟨b,a⟩:=jB.1 a;right;exact⟨b,by rw[a];assumption⟩
def Dz(B:Nat)(w:U)(tb:Nat)(t:Ψ)(n:Λ)(h:TA B w tb t)(l:t.j<=1000)(k:zO t n=Y):
  c_ e_ 77 #[(π tb),.g n] w λe f=>e=ε (.B #[ι 0,.i false])/\f=w:=by
 have d:=iu B w tb t n h l;obtain⟨p,o,i,b⟩:=h.view;obtain⟨r,q⟩:=i.H;have a:=U2 d;rcases tX k with j|⟨j,c⟩
 .clear k;go_enter func77,ntmps77;go_wp2_with (go_at_call 126;refine a.l.y ?_;rintro e f ⟨rfl,rfl⟩;clear a)
  go_ret2
  exact⟨rfl,rfl⟩
 obtain⟨g,rfl,u,_,m,_,_⟩:=j9 b _ j;have s:=vn c;go_enter func77,ntmps77;go_wp2_with (go_at_call 126;refine a.l.y ?_;rintro e f ⟨rfl,rfl⟩;clear a)
 go_ret2
 exact⟨rfl,rfl⟩
def GK(B:Nat)(w:U)(tb:Nat)(t:Ψ)(n:Λ)(m:zf)(h:TA B w tb t)(o:t.j<=1000)(r:zO t n=Z m):
  c_ e_ 77 #[(π tb),.g n] w λe k=>e=ε (.B #[ι (zM t n),.i true])/\k=w:=by
 have c:=iu B w tb t n h o;obtain⟨s,p,i,b⟩:=h.view;obtain⟨v,u⟩:=i.H;have a:=U2 c;obtain⟨l,f,q⟩:=qr r;obtain⟨g,rfl,x,_,j,_,d⟩:=j9 b _ l;rw[f] at j d;go_enter func77,ntmps77;go_wp2_with (go_at_call 126;refine a.l.y ?_;rintro e k ⟨rfl,rfl⟩;clear a)
 go_ret2
 exact⟨rfl,rfl⟩
def LF(B:Nat)(w:U)(tb:Nat)(t:Ψ)(n:Λ)(h:TA B w tb t)(c:t.j<=1000)(a:zO t n=Y):
  c_ e_ 159 #[(π tb),.g n] w λe d=>e=ε (.B #[ι 0,.i false])/\d=w:=by
 have b:=U2 (Dz B w tb t n h c a);clear h a c;go_enter func159,ntmps159;go_wp2_with (go_at_call 77;refine b.l.y ?_;rintro e d ⟨rfl,rfl⟩;clear b)
 go_ret2
 exact⟨rfl,rfl⟩
def Gy(B:Nat)(w:U)(tb:Nat)(t:Ψ)(n:Λ)(b:zf)(h:TA B w tb t)(o:t.j<=1000)(i:zO t n=Z b):
  c_ e_ 159 #[(π tb),.g n] w λe f=>e=ε (.B #[ι b.L,.i true])/\f=w:=by
 have d:=U2 (GK B w tb t n b h o i);obtain⟨r,q,c,a⟩:=h.view;obtain⟨u,s⟩:=c.H;obtain⟨j,m,l⟩:=qr i;obtain⟨g,rfl,v,_,p,_,k⟩:=j9 a _ j;go_enter func159,ntmps159;go_wp2_with (go_at_call 77;refine d.l.y ?_;rintro e f ⟨rfl,rfl⟩;clear d)
 go_ret2
 exact⟨rfl,rfl⟩
def Ek:∀(t:Ψ) (k:Nat) (e:zf) (b:k<t.j),t[k].name=e.name->t[k].jh=e.jh->(uh t).set (k*3+2) (ι (e.L:Int))=uh (t.set k e)
 |[],k,_,b,_,_=>by simp at b
 |a::r,0,e,_,c,d=>by simp at c d;simp[uh,c,d]
 |a::r,k+1,e,b,c,d=>by
  have:=Ek r k e (by simpa using b) (by simpa using c) (by simpa using d);simp only[uh,uZ,pu] at this ⊢;rw[show(k+1)*3+2=k*3+2+1+1+1 from by omega];simpa using this
def xW(t:List zf)(n:ByteArray)(s:Nat):List zf×Bool:=match zO t n with
 |none=>(t,false)
 |some e=>if s<=e.L then(t,false) else(t.set (zM t n) {e with L:=s},true)
def Om(t:Ψ)(n:Λ)(s:Nat):(xW t n s).1.j=t.j:=by
 unfold xW;split;rfl;split<;>simp
def VM(B:Nat)(w:U)(tb:Nat)(t:Ψ)(n:Λ)(s:Nat)(h:TA B w tb t)(z:t.j<=1000)(_:s<=3000000):
  c_ e_ 151 #[(π tb),.g n,ι s] w λe m=>e=ε (.i (xW t n s).2)/\TA B m tb (xW t n s).1/\Below B w m:=by
 obtain⟨L,H,b,a⟩:=h.view;obtain⟨K,J⟩:=b.H;have A:=U2 h;rcases f:zO t n with _|o
 .have k:X (xW t n s=(t,false)):=by unfold X xW;rw[f]
  have d:=U2 (Dz B w tb t n h z f);rw[k.l];go_enter func151,ntmps151;go_wp2_with (go_at_call 77;refine d.l.y ?_;rintro e m ⟨rfl,rfl⟩;clear d)
  go_ret;exact⟨rfl,A,zn _ _⟩
 have d:=U2 (GK B w tb t n o h z f);obtain⟨x,j,F⟩:=qr f;obtain⟨g,rfl,M,r,G,_,E⟩:=j9 a _ x;have I:=uv a;by_cases p:s<=o.L
 .have k:X (xW t n s=(t,false)):=by unfold X xW;rw[f];simp[p]
  rw[k.l];go_enter func151,ntmps151;go_wp2_with (go_at_call 77;refine d.l.y ?_;rintro e m ⟨rfl,rfl⟩;clear d)
  go_ret;exact⟨rfl,A,zn _ _⟩
 have k:X (xW t n s=(t.set (zM t n) {o with L:=s},true)):=by unfold X xW;rw[f];simp[p]
 rw[k.l];have c:=um a (zM t n*3+2) (by rw[Cq];omega) (ι (s:Int));rw[Ek t (zM t n) {o with L:=s} x (by rw[j]) (by rw[j])] at c;have i:tb≠g:=by
  intro v;subst v;obtain⟨_,⟨q,_⟩|⟨N,y,D,q,_,C,_⟩⟩:=a;cases q;simp at q;obtain⟨rfl,_⟩:=q;unfold U3 at b;rw[C] at b;simp at b
 have l:=b.set_ne i (zM t n*3+2) (ι (s:Int));have u:X (TA B (w.x (ω g (zM t n*3+2)) (ι (s:Int))) tb (t.set (zM t n) {o with L:=s})):=⟨_,l,by simpa using c⟩;go_enter func151,ntmps151;go_wp2_with (go_at_call 77;refine d.l.y ?_;rintro e m ⟨rfl,rfl⟩;clear d)
 go_ret;exact⟨rfl,u,(zn _ _).x r _⟩
end
section
open Go.Proofs.Tryz Go.RowKit
variable {lo:Nat}
def kK(t:List zf)(l:zk):Nat:=match zO t l.o with
 |none=>0
 |some e=>if l.i then e.L+1 else e.L
def jj(t:List zf)(n:Nat)(l:zk):Nat:=if n<kK t l then kK t l else n
def jC(t:List zf)(c:zd):Nat:=c.d.H (jj t) 0
def It{t:Ψ}{M:Nat}(h:∀e∈t,e.L<=M)(l:zk):kK t l<=M+1:=by
 unfold kK;split;omega;rename_i e c;obtain⟨b,a,_⟩:=qr c;have:=h e (by rw[←a];exact zr b);split<;>omega
def DI{t:Ψ}{M:Nat}(h:∀e∈t,e.L<=M):∀(ls:Ω) (n:Nat),n<=M+1->ls.H (jj t) n<=M+1
 |[],n,a=>a
 |l::ls,n,a=>by
  refine DI h ls _ ?_;unfold jj;have:=It h l;split<;>omega
def In(B M:Nat)(w:U)(tb:Nat)(t:Ψ)(c:zd)(P vb:O)(h:TA B w tb t)(G:t.j<=1000)(J:∀e∈t,e.L<=M)(T:M<=2000000)(hs:U7 lo w P c.g.k)(I:Vd lo w vb c.d)(V:c.d.j<=1000):
  c_ e_ 150 #[(π tb),.agg #[.i c.g.i,.g c.g.o,P,vb]] w λe w'=>e=ε (ι (jC t c))/\μ w w':=by
 obtain⟨ao,ab,rfl⟩:=hs.qm;obtain⟨S,L,rfl⟩:=I.qm;have R:=U2 J;clear J;go_enter func150,ntmps150;go_wp2;go_loopw [5,13] (λn i wr=>∃k m:Nat,k<=c.d.j/\i=ι k/\n=ι m/\m<=M+1/\μ w wr/\X (m=(c.d.G k).H (jj t) 0)) (λ_ i _=>c.d.j-(d_ i).D);exact⟨0,0,zs _,rfl,rfl,zs _,γ,rfl⟩;obtain⟨k,m,hk,rfl,rfl,D,d,H⟩:=hrel;have Q:=d.q;by_cases v:k<c.d.j
 .obtain⟨g,ad,N,rfl,F,u,x,y,C⟩:=I.cell k v;have z:=zi d F u;have ac:=zi d F x;have aa:=zi d F y;have W:g<wr.o.q:=η;have r:X ((c.d.G (k+1)).H (jj t) 0=jj t m c.d[k]):=by rw[X,H.l,yF v,j4];rfl
  have o:=h.u d;clear u x y C H;generalize c.d[k]=a at *;have p:=It R.l a;rcases j:zO t a.o with _|f
  .have l:X (kK t a=0):=by unfold X kK;rw[j]
   have E:X ((c.d.G (k+1)).H (jj t) 0=m):=by rw[X,r.l,jj,l.l];simp
   have A:=U2 j;clear r l j p;go_wp2_with (go_at_call 159;refine(LF B _ tb t a.o (by exact o.u γ) G A).y ?_;rintro e K ⟨rfl,rfl⟩)
   go_roundw;exact⟨k+1,m,η,ξ,rfl,D,γ,E.l.z⟩;simp[d_];omega
  have A:=U2 j;cases s:a.i
  .have q:kK t a=f.L:=by unfold kK;rw[j,s];rfl
   have l:X (jj t m a=if m<f.L then f.L else m):=by unfold X jj;rw[q]
   rw[s] at z;rw[q] at p;clear q j s;by_cases b:m<f.L
   all_goals
    go_wp2_with (go_at_call 159;refine(Gy B _ tb t a.o f (by exact o.u γ) G A).y ?_;rintro e K ⟨rfl,rfl⟩)
    go_roundw;first|exact⟨k+1,f.L,η,ξ,ξ,η,γ,by rw[X,r.l,l.l,zb b]⟩|exact⟨k+1,m,η,ξ,rfl,D,γ,by rw[X,r.l,l.l,za b]⟩
    simp[d_];omega
  have q:kK t a=f.L+1:=by unfold kK;rw[j,s];rfl
  have l:X (jj t m a=if m<f.L+1 then f.L+1 else m):=by unfold X jj;rw[q]
  rw[s] at z;rw[q] at p;clear q j s;by_cases b:m<f.L+1
  all_goals
   go_wp2_with (go_at_call 159;refine(Gy B _ tb t a.o f (by exact o.u γ) G A).y ?_;rintro e K ⟨rfl,rfl⟩)
   go_roundw;first|exact⟨k+1,f.L+1,η,ξ,ξ,η,γ,by rw[X,r.l,l.l,zb b]⟩|exact⟨k+1,m,η,ξ,rfl,D,γ,by rw[X,r.l,l.l,za b]⟩
   simp[d_];omega
 have E:X (m=jC t c):=by rw[X,H.l,yO η];rfl
 clear H;go_wp2;go_ret;exact⟨by rw[←E.l];rfl,d⟩
def qB(x:List zf×Bool)(c:zd):List zf×Bool:=((xW x.1 c.g.o (jC x.1 c)).1,x.2||(xW x.1 c.g.o (jC x.1 c)).2)
def qD(t:List zf)(cs:List zd):List zf×Bool:=cs.H qB (t,false)
def L2{t:Ψ}{n:Λ}{s M:Nat}(h:∀e∈t,e.L<=M)(hs:s<=M):∀e∈(xW t n s).1,e.L<=M:=by
 unfold xW;split;exact h;split;exact h;intro e a;rcases mA a with a|a;exact h e a;subst a;exact hs
def MS{α β:Type}(f:β->α->β)(b:β)(l:List α)(k:Nat)(a:k<l.j):(l.G (k+1)).H f b=f ((l.G k).H f b) l[k]:=by rw[yF a,j4];rfl
def Ol(B M:Nat)(w:U)(tb:Nat)(t:Ψ)(v:O)(cs:Ξ)(J:U)(ab:J.o.q=B)(Q:Below B J w)(L:Vh lo 171 J v cs)(H:∀c∈cs,vV c)(_:cs.j<=1000)
  (h:TA B w tb t) (hl:t.j<=1000) (hM:∀e∈t,e.L<=M) (ai:M+cs.j<=1900000):
  c_ e_ 104 #[(π tb),v] w λe w'=>e=ε (.i (qD t cs).2)/\TA B w' tb (qD t cs).1/\Below B w w'/\(qD t cs).1.j=t.j/\(∀e∈(qD t cs).1,e.L<=M+cs.j):=by
 obtain⟨ao,ap,rfl⟩:=L.qm;have W:X (∀c∈cs,vV c):=H;have af:=Q.q;clear H;go_enter func104,ntmps104;go_wp2;go_loopw [5,11] (λr i wr=>∃k:Nat,k<=cs.j/\i=ι k/\r=.i ((cs.G k).H qB (t,false)).2/\Below B w wr/\TA B wr tb ((cs.G k).H qB (t,false)).1/\((cs.G k).H qB (t,false)).1.j=t.j/\X (∀e∈((cs.G k).H qB (t,false)).1,e.L<=M+k)) (λ_ i _=>cs.j-(d_ i).D);exact⟨0,zs _,rfl,rfl,zn _ _,h,rfl,hM⟩;obtain⟨k,hk,rfl,rfl,b,d,D,o⟩:=hrel;have j:Below J.o.q J wr:=by rw[ab];exact Q.A b
 have ae:=b.q;by_cases A:k<cs.j
 .have P:=MS qB (t,false) cs k A;obtain⟨g,au,ad,av,ag,rfl,hg,F,G,N,I,E,u⟩:=L.cell k A;have aq:=(j.cell (p:=(ω g (k*4))) η).A F;have ar:=(j.cell (p:=(ω g (k*4+1))) η).A G;have an:=(j.cell (p:=(ω g (k*4+2))) η).A N;have al:=(j.cell (p:=(ω g (k*4+3))) η).A I;have aj:g<wr.o.q:=η;have s:=E.u j;have q:=u.u j;obtain⟨ak,K⟩:=W.l _ (zr A);clear F G N I E u;generalize cs[k]=a at *;generalize (cs.G k).H qB (t,false)=x at *;obtain⟨tk,rk⟩:=x;simp only at d D o ⊢;have R:X ((cs.G (k+1)).H qB (t,false)=qB (tk,rk) a):=P;clear P;have am:jC tk a<=M+k+1:=DI o.l a.d 0 η;have ah:=Om tk a.g.o (jC tk a);have HB:X (∀e∈(xW tk a.g.o (jC tk a)).1,e.L<=M+(k+1)):=L2 (λe he=>by have:=o.l e he;omega) η;cases hR:(xW tk a.g.o (jC tk a)).2
  .have n:X (((cs.G (k+1)).H qB (t,false))=((xW tk a.g.o (jC tk a)).1,rk)):=by rw[X,R.l,qB];simp[hR]
   clear R;go_wp2_with (first|(go_at_call 150;refine(In B (M+k) _ tb tk a _ _ (by exact d.u γ) η o.l η (by exact s.u γ) (by exact q.u γ) K).y ?_;rintro e w1 ⟨rfl,l⟩;have f:=U6 ((zn wr.o.q wr).C (ze _) _) l;have C:=d.u f;have aa:=f.q;have m:=(U3.new wr _ _).u l;obtain⟨S,ac⟩:=m.H)|(go_at_call 151;refine(VM B _ tb tk a.g.o (jC tk a) C η η).y ?_;rintro e w2 ⟨rfl,z,y⟩))
   go_roundw;exact⟨k+1,η,ξ,by rw[n.l],(b.A (f.y η)).A y,by rw[n.l];exact z,by rw[n.l];simp only;omega,by rw[n.l];exact HB⟩;simp[d_];omega
  have n:X (((cs.G (k+1)).H qB (t,false))=((xW tk a.g.o (jC tk a)).1,true)):=by rw[X,R.l,qB];simp[hR]
  clear R;go_wp2_with (first|(go_at_call 150;refine(In B (M+k) _ tb tk a _ _ (by exact d.u γ) η o.l η (by exact s.u γ) (by exact q.u γ) K).y ?_;rintro e w1 ⟨rfl,l⟩;have f:=U6 ((zn wr.o.q wr).C (ze _) _) l;have C:=d.u f;have aa:=f.q;have m:=(U3.new wr _ _).u l;obtain⟨S,ac⟩:=m.H)|(go_at_call 151;refine(VM B _ tb tk a.g.o (jC tk a) C η η).y ?_;rintro e w2 ⟨rfl,z,y⟩))
  go_roundw;exact⟨k+1,η,ξ,by rw[n.l],(b.A (f.y η)).A y,by rw[n.l];exact z,by rw[n.l];simp only;omega,by rw[n.l];exact HB⟩;simp[d_];omega
 have hE:cs.G k=cs:=yO η;rw[hE] at d D o ⊢;have V:k=cs.j:=η;have T:X (∀e∈(qD t cs).1,e.L<=M+cs.j):=by rw[←V];exact o
 clear hE o;go_wp2;go_ret;exact⟨rfl,d,b,D,T⟩
def xX:Nat->List zf->List zd->List zf×Bool
 |0,t,_=>(t,false)
 |m+1,t,a=>if (qD t a).2 then xX m (qD t a).1 a else((qD t a).1,true)
def FC(B:Nat)(w:U)(tb:Nat)(t:Ψ)(v:O)(cs:Ξ)(r:U)(x:r.o.q=B)(J:Below B r w)(G:Vh lo 171 r v cs)(q:∀c∈cs,vV c)(n:cs.j<=1000)
  (h:TA B w tb t) (hl:t.j<=1000) (M:∀e∈t,e.L<=0):
  c_ e_ 64 #[(π tb),v] w λe u=>e=ε (.i (xX (t.j+1) t cs).2)/\TA B u tb (xX (t.j+1) t cs).1/\Below B w u:=by
 have D:X (∀c∈cs,vV c):=q;have N:X (r.o.q=B):=x;clear q x;go_enter func64,ntmps64;go_wp2;go_loopw [5] (λi wr=>∃(p:Nat) (tk:Ψ),p<=t.j+1/\i=ι p/\Below B w wr/\TA B wr tb tk/\tk.j=t.j/\X (∀e∈tk,e.L<=p*cs.j)/\X (xX (t.j+1) t cs=xX (t.j+1-p) tk cs)) (λi _=>t.j+1-(d_ i).D);exact⟨0,t,zs _,rfl,zn _ _,h,rfl,(by simpa [X] using M),rfl⟩;obtain⟨p,tk,W,rfl,b,g,F,K,H⟩:=hrel;obtain⟨V,S,s,m⟩:=g.view;obtain⟨P,T⟩:=s.H;rw[F] at P s m;by_cases R:p<=t.j
 .have A:p*cs.j<=1000*1000:=E_ η n;have o:=Ol B (p*cs.j) wr tb tk v cs r N.l (J.A b) G D.l n g η K.l η;have a:X (c_ e_ 104 #[(π tb),v] wr λe u=>e=ε (.i (qD tk cs).2)/\TA B u tb (qD tk cs).1/\Below B wr u/\(qD tk cs).1.j=tk.j/\(∀e∈(qD tk cs).1,e.L<=p*cs.j+cs.j)):=o;have y:t.j+1-p=(t.j-p)+1:=η;have C:X (xX (t.j+1) t cs=if (qD tk cs).2 then xX (t.j-p) (qD tk cs).1 cs else((qD tk cs).1,true)):=by rw[X,H.l,y];rfl
  clear o y H;have z:p*cs.j+cs.j=(p+1)*cs.j:=by rw[mn];omega
  have I:X (p*cs.j+cs.j=(p+1)*cs.j):=z;clear z A K;cases l:(qD tk cs).2
  .have f:X (xX (t.j+1) t cs=((qD tk cs).1,true)):=by rw[X,C.l,l];simp
   clear C;rw[l] at a;clear l;generalize (qD tk cs).1=L at *;go_wp2_with (go_at_call 104;refine a.l.y ?_;rintro e Q ⟨rfl,j,d,E,k⟩;clear a)
   go_ret;exact⟨by rw[f.l];rfl,by rw[f.l];exact j,b.A d⟩
  have f:X (xX (t.j+1) t cs=xX (t.j+1-(p+1)) (qD tk cs).1 cs):=by rw[X,C.l,l];simp
  clear C;rw[l] at a;clear l;generalize (qD tk cs).1=L at *;go_wp2_with (go_at_call 104;refine a.l.y ?_;rintro e Q ⟨rfl,j,d,E,k⟩;clear a)
  go_roundw;exact⟨p+1,L,η,ξ,b.A d,j,η,by rw[I.l] at k;exact k,f⟩;simp[d_];omega
 have f:X (xX (t.j+1) t cs=(tk,false)):=by rw[X,H.l,show t.j+1-p=0 by omega];rfl
 clear H;go_wp2;go_ret;exact⟨by rw[f.l];rfl,by rw[f.l];exact g,b⟩
end
section
open Go.Proofs.Tryz Go.RowKit
variable {w w':U}{base n b g cap m tb:Nat}{v:O}{xs:List O}{c:Array O}
def U3.newAt(w:U)(b:Nat)(c:Array O)(T:f_)(h:b=w.o.q):U3 (w.C (.E c T)) b c T:=by subst h;exact U3.new w c T
def U3.drew{w:U}{b:Nat}{c:Array O}{T:f_}(h:U3 w b c T):U3 w.drew b c T:=h
def PN{e:f_}{a:Nat}(h:w.r base e a v n xs)(o:w.o.q<=b):Z b≠v.m:=by
 intro j;obtain⟨_,⟨f,_⟩|⟨p,l,k,i,_,d,_⟩⟩:=h;subst f;cases j;subst i;simp only[n_,zt] at j;subst j;have:=(kB.1 d).1;omega
def mu{e T:f_}{d:Nat}(h:w.r base e d v n xs)(l:U3 w b c T)(p:e≠T):Z b≠v.m:=by
 intro j;obtain⟨_,⟨f,_⟩|⟨q,o,k,i,_,a,_⟩⟩:=h;subst f;cases j;subst i;simp only[n_,zt] at j;subst j;unfold U3 at l;rw[l] at a;simp at a;exact p a.2.z
def U3.keep{e f:U}{T:f_}(h:U3 e b c T)(a:Z b≠v.m)(i:∀k,k<e.o.q->Z k≠v.m->f.o[k]?=e.o[k]?):U3 f b c T:=by
 have d:=h.lt;unfold U3 at *;rw[i b d a];exact h
def PQ{e T:f_}{a:Nat}(h:w.r base e a (.k (Z (δ g)) n cap) m xs)(k:U3 w b c T)(q:c.q<m*a):b≠g:=by
 intro r;subst r;obtain⟨_,⟨i,_⟩|⟨t,l,j,f,_,d,o,s,p,_⟩⟩:=h;cases i;simp at f;obtain⟨rfl,rfl,rfl⟩:=f;unfold U3 at k;rw[k] at d;simp at d;rw[←d.1] at p;have:=f5 a o;omega
section
variable {P:Program} {ops:Array Oper} {o:Oper} {a:Act} {K:Act->U->Prop} {Q:Exit->Act->U->Prop}
def oE{E:Prop}(C D:U)(l:Γ)(te:f_)(I:o.guard=Y)(s x:Operand)(t:f_)
  (ho:o.op=.call {callee:=.builtin .append,args:=#[s,x],argTypes:=#[t,t]})
  (base:Nat) (e:f_) (i:TypeInfo) (z:O) (d f:Nat) (W:P.underlying t=Z (.k e)) (hi:P.info? e=Z i) (hz:i.zero=Z z)
  (B:i.q=d) (M:i.bytes=f) (L:z.E.q=d) (R:0<d)
  (v:O) (n:Nat) (xs:Γ) (V:a.eval s=v) (y:C.r base e d v n xs) (q:μ C D)
  (b c:Nat) (hx:a.eval x=.k (Z (δ b)) 1 c) (hb:U3 D b l.toArray te) (hl:l.j=d) (h1:∀u∈l,u.oneCell'=true)
  (hn:n<=1048576) (r:f<=1000) (J:base<=C.o.q)
  (h:∀G w',w'.r base e d G (n+1) (xs++l)->Below base C w'->(∀k,k<D.o.q->Z k≠v.m->w'.o[k]?=D.o[k]?)->D.o.q<=w'.o.q->K (a.put o.dst G) w'):
  if Region.wanted o (yielded ops a.tmps)=true then Oper.wp P o a D K Q else E:=by
 have hw:Region.wanted o (yielded ops a.tmps)=true:=by simp[Region.wanted,I]
 rw[zb hw];have A:=zy y q;have H:∀k,v.m=Z k->base<=k/\k<C.o.q:=by
  intro k F;obtain⟨_,S⟩:=y;rcases S with⟨N,_⟩|⟨g,cap,aa,N,I,hh,_⟩
  .subst N;cases F
  .subst N;simp only[n_,zt] at F;subst F;exact⟨I,(kB.1 hh).1⟩
 have T:=q.q;refine wp_append_own _ s x t ho base e i z d f W hi hz B M L R v n xs V A (δ b) 1 c l hx η ?_ h1 ?_ ?_ ?_ ?_
 .intro j u hj;rw[y_,uM,hb.H.1];simpa using hj
 .unfold maxLen;omega
 .have:(n+1)*f<=1048577*1000:=E_ η r;omega
 .omega
 .intro G w' S p _;refine h G w' S ⟨p.os.A q.os,p.tape.A q.tape,p.output.A q.output,by have:=p.q;omega,λk F=>?_⟩ p.block p.q;rw[p.block k η (λe=>by have:=H k e.z;omega)];exact q.block k η
end
def vP(t:List zf)(x:zf)(k:Nat):List zf:=t.G k++x::t.drop k
def fX(t:Ψ)(x:zf)(k:Nat):(vP t x k).j=t.j+1:=by simp[vP];omega
def Qf(t:Ψ)(x:zf):vP t x t.j=t++[x]:=by simp[vP]
def QQ(t:Ψ)(x:zf)(j:Nat)(d:j<t.j):∃h:j<(vP t x (j+1)).j,(vP t x (j+1))[j]=t[j]:=by
 refine⟨by rw[fX];omega,?_⟩;unfold vP;rw[uI υ];simp
def Ta(t:Ψ)(x:zf)(j:Nat)(d:j<=t.j):∃h:j<(vP t x j).j,(vP t x j)[j]=x:=by
 refine⟨by rw[fX];omega,?_⟩;unfold vP;rw[mh υ];simp[d]
def Sy(t:Ψ)(x:zf)(j:Nat)(e:j<t.j):((vP t x (j+1)).set (j+1) t[j]).set j x=vP t x j:=by
 unfold vP;have f:=yF e;have h:=yK e;have d:(t.G j).j=j:=by simp;omega
 rw[f,h,jt,gz _ _ η,d,gz _ _ η,d];simp
def FD:∀(t:Ψ) (k:Nat) (e:zf),k<t.j->(((uh t).set (k*3) (.g e.name)).set (k*3+1) (ι (e.jh:Int))).set (k*3+2) (ι (e.L:Int))=uh (t.set k e)
 |[],k,_,d=>by simp at d
 |a::r,0,e,_=>by simp[uh]
 |a::r,k+1,e,d=>by
  have:=FD r k e (by simpa using d);simp only[uh,uZ,pu] at this ⊢;rw[show(k+1)*3=k*3+1+1+1 from by omega,show k*3+1+1+1+2=k*3+2+1+1+1 from by omega];simpa using this
def Bv{B:Nat}{t:Ψ}(h:w.r B 221 3 (.k (Z (δ g)) n cap) m (uh t))(k:Nat)(d:k<t.j)(e:zf):
  (((w.x (ω g (k*3)) (.g e.name)).x (ω g (k*3+1)) (ι (e.jh:Int))).x (ω g (k*3+2)) (ι (e.L:Int))).r B 221 3 (.k (Z (δ g)) n cap) m (uh (t.set k e)):=by
 have f:=Cq t;rw[←FD t k e d];exact um (um (um h _ η _) _ υ _) _ υ _
structure vW (tb:Nat) (w w':U):Prop where
 q:w.o.q<=w'.o.q
 box:∀b c T,b≠tb->T≠221->U3 w b c T->U3 w' b c T
def vW.refl(tb:Nat)(w:U):vW tb w w:=⟨ze _,λ_ _ _ _ _ h=>h⟩
def vW.A{a b c:U}(h:vW tb a b)(k:vW tb b c):vW tb a c:=⟨zX h.q k.q,λx y z d e f=>k.box x y z d e (h.box x y z d e f)⟩
def vW.of(h:μ w w'):vW tb w w':=⟨h.q,λ_ _ _ _ _ k=>k.u h⟩
def vW.drew{tb:Nat}{w w':U}(h:vW tb w w'):vW tb w w'.drew:=⟨h.q,λb c T d f e=>(h.box b c T d f e).drew⟩
def vW.setRow(h:vW tb w w'){B:Nat}(j:w'.r B 221 3 (.k (Z (δ g)) n cap) m xs)(o:Nat)(u:O):vW tb w (w'.x (ω g o) u):=by
 refine⟨by simp[o_];exact h.q,λb c T f e i=>?_⟩;have d:=h.box b c T f e i;have:=mu j d (I_ e);simp only[n_,ne_eq,zt] at this;exact d.set_ne this _ _
def EA(h:vW tb w w'){B:Nat}{t:Ψ}(d:w'.r B 221 3 (.k (Z (δ g)) n cap) m (uh t))(k:Nat)(e:k<t.j)(u1 u2 u3:O):
  vW tb w (((w'.x (ω g (k*3)) u1).x (ω g (k*3+1)) u2).x (ω g (k*3+2)) u3):=by
 have f:=Cq t;exact((h.setRow d _ _).setRow (um d _ η _) _ _).setRow (um (um d _ η _) _ υ _) _ _
def TL:(e_.info? 221).map (λi=>(i.zero,i.q,i.bytes))=Z (Z (.agg #[.g g_,ι 0,ι 0]),3,32):=χ
def Iw(B:Nat)(w:U)(tb:Nat)(t:Ψ)(i:Nat)(x:zf)(h:TA B w tb t)(hl:t.j<=1000)(hi:i<=t.j)(hB:B<=w.o.q)(ae:B<=tb):
  c_ e_ 147 #[(π tb),ι i,.agg #[.g x.name,ι x.jh,ι x.L]] w λe w'=>e=ε (.B #[])/\TA B w' tb (t.G i++x::t.drop i)/\Below B w w'/\vW tb w w':=by
 obtain⟨i0,V,N,ab,ad⟩:=info_parts TL;obtain⟨ao,cap,C,p⟩:=h.view;obtain⟨hc,hf,ar⟩:=C.I;have y:μ w (((w.C (.E #[.g x.name,ι (x.jh:Int),ι (x.L:Int)] 221)).C (.E #[.g x.name,ι (x.jh:Int),ι (x.L:Int)] 221)).drew):=γ;go_enter func147,ntmps147;go_wp2;go_region_law (first|(refine oE w _ [.g x.name,ι (x.jh:Int),ι (x.L:Int)] 221 rfl (.tmp 11) (.tmp 13) 125 rfl B 221 i0 _ 3 32 underlying125 V N ab ad rfl θ _ _ _ (by simp[Act.eval]) p γ (w.o.q+1) 1 (by simp[Act.eval]) (by exact U3.drew (U3.newAt _ _ _ _ ζ)) rfl a_ η η hB ?_;intro v' w2 E J A ak;obtain⟨D,r,rfl⟩:=zq E;have q:=(C.u y).keep (mu p C θ) A;obtain⟨az,ap⟩:=q.H;have F:=U3.keep (U3.drew ((U3.new w _ _).u zQ)) (PN p (ze _)) A))
 all_goals
  go_wp2;go_loopw [6] (λk wr=>∃j:Nat,i<=j/\j<=t.j/\k=ι j/\U3 wr tb #[.k D (t.j+1) r] 127/\wr.r B 221 3 (.k D (t.j+1) r) (t.j+1) (uh (vP t x j))/\U3 wr w.o.q #[.g x.name,ι (x.jh:Int),ι (x.L:Int)] 221/\Below B w wr/\vW tb w wr) (λk _=>(d_ k).D);refine⟨t.j,hi,ze _,rfl,q.set 0 _,?_,F.set_ne η _ _,?_,?_⟩;rw[Qf];have:=xJ E ((UF.refl tb w2).x 0 (.k D (t.j+1) r)) q θ;simpa [uh] using this;exact J.x ae _;exact⟨by simp[o_];exact J.q,λb c T h1 h2 h3=>((h3.u y).keep (mu p h3 (I_ h2)) A).set_ne h1 _ _⟩;obtain⟨j,au,av,rfl,s,l,z,G,u⟩:=hrel;obtain⟨aq,ax⟩:=s.H;obtain⟨aw,an⟩:=z.H;by_cases al:i<j
  .obtain⟨j,rfl⟩:∃j',j=j'+1:=⟨j-1,η⟩;obtain⟨ag,L⟩:=QQ t x j η;obtain⟨g,rfl,hg,am,ai,aj,ah⟩:=j9 (t:=vP t x (j+1)) (by rw[fX];exact l) j ag;rw[L] at ai aj ah;have ay:=uv l;have d:=mu l s θ;have f:=PQ l z υ;simp only[n_,ne_eq,zt] at d;obtain⟨aa,I⟩:=Ta t x (j+1) η;obtain⟨g',H,_,_,R,ac,S⟩:=j9 (t:=vP t x (j+1)) (by rw[fX];exact l) (j+1) aa;simp at H;subst H;rw[I] at R ac S;clear L I;go_wp2;go_region
   go_wp2;go_region
   go_wp2;have M:=Bv (Bv l (j+1) (by rw[fX];omega) t[j]) j (by rw[dG,fX];omega) x;have W:=EA (EA u l (j+1) (by rw[fX];omega) (.g t[j].name) (ι (t[j].jh:Int)) (ι (t[j].L:Int))) (Bv l (j+1) (by rw[fX];omega) t[j]) j (by rw[dG,fX];omega) (.g x.name) (ι (x.jh:Int)) (ι (x.L:Int));rw[Sy t x j η] at M;go_roundw;exact⟨j,η,η,rfl,(((((((s.set_ne d _ _).set_ne d _ _).set_ne d _ _).set_ne d _ _).set_ne d _ _).set_ne d _ _).drew).drew,M.drew.drew,(((((((z.set_ne f _ _).set_ne f _ _).set_ne f _ _).set_ne f _ _).set_ne f _ _).set_ne f _ _).drew).drew,γ,W.drew.drew⟩;simp[d_]
  have af:j=i:=η;subst af;go_wp2;go_end0
  exact⟨rfl,⟨_,s,by rw[show(t.G j++x::t.drop j).j=t.j+1 from fX t x j];exact l⟩,G,u⟩
end
section
open Go.Proofs.Tryz Go.RowKit
def JG(a b:Nat):((a:Int) == (b:Int))=decide (a=b):=by
 by_cases h:a=b;subst h;simp;rw[decide_eq_false h,beq_eq_false_iff_ne];omega
def Tq{a b:Bool}(h:a=b):Ending.returned (.i a)=ε (.i b):=by rw[h]
def vZ(t:List zf)(l:zk):Option (List zf):=match zO t l.o with
 |some e=>if e.jh=l.k.j then Z t else Y
 |none=>Z (vP t ⟨l.o,l.k.j,0⟩ (zM t l.o))
def E7(B:Nat)(w:U)(tb:Nat)(t:Ψ)(l:zk)(f:Option Addr)(a:Nat)(h:TA B w tb t)(r:t.j<=1000)(o:zf)(v:zO t l.o=Z o):
  c_ e_ 102 #[(π tb),.agg #[.i l.i,.g l.o,.k f l.k.j a]] w λe n=>e=ε (.i (decide (o.jh=l.k.j)))/\μ w n:=by
 obtain⟨z,u,d,c⟩:=h.view;have q:=d.lt;have j:=(zn w.o.q w).C (ze _) (.E #[.i l.i,.g l.o,.k f l.k.j a] 90);have b:=U2 (iu B _ tb t l.o (h.u j) r);obtain⟨y,x⟩:=d.H;obtain⟨p,i,s⟩:=qr v;obtain⟨g,rfl,A,_,k,m,_⟩:=j9 c _ p;rw[i] at k m;go_enter func102,ntmps102;go_wp2_with (go_at_call 126;refine b.l.y ?_;rintro e n ⟨rfl,rfl⟩;clear b)
 go_quiet (fail)
 go_wp2;go_quiet (fail)
 go_wp2;go_ret;exact⟨Tq (JG _ _),φ⟩
def Jo(B:Nat)(w:U)(tb:Nat)(t:Ψ)(l:zk)(r:Option Addr)(d:Nat)(h:TA B w tb t)(v:t.j<=1000)(A:zO t l.o=Y)(s:B<=w.o.q)(q:B<=tb):
  c_ e_ 102 #[(π tb),.agg #[.i l.i,.g l.o,.k r l.k.j d]] w λe p=>e=ε (.i true)/\TA B p tb (vP t ⟨l.o,l.k.j,0⟩ (zM t l.o))/\Below B w p/\vW tb w p:=by
 obtain⟨J,E,o,j⟩:=h.view;have C:=o.lt;have n:=tG t l.o;have a:=(zn w.o.q w).C (ze _) (.E #[.i l.i,.g l.o,.k r l.k.j d] 90);have c:=U2 (iu B _ tb t l.o (h.u a) v);obtain⟨I,H⟩:=o.H;have u:=h;have m:=U2 u;have z:X (vP t ⟨l.o,l.k.j,0⟩ (zM t l.o)=t.G (zM t l.o)++⟨l.o,l.k.j,0⟩::t.drop (zM t l.o)):=rfl;rcases tX A with y|⟨y,x⟩
 .clear A;generalize zM t l.o=k at *;go_enter func102,ntmps102;go_wp2_with (go_at_call 126;refine c.l.y ?_;rintro e p ⟨rfl,rfl⟩;clear c)
  go_quiet (fail)
  go_wp2_with (go_at_call 147;refine(Iw B _ tb t k ⟨l.o,l.k.j,0⟩ (by exact m.l.u φ) v n (by exact zX s ζ) q).y ?_;rintro e D ⟨rfl,i,f,b⟩)
  go_ret;exact⟨rfl,i,((zG (a.y s) _)).A f,(vW.of (zG a _)).A b⟩
 obtain⟨g,rfl,L,_,F,G,_⟩:=j9 j _ y;have K:=vn x;generalize zM t l.o=k at *;go_enter func102,ntmps102;go_wp2_with (go_at_call 126;refine c.l.y ?_;rintro e p ⟨rfl,rfl⟩;clear c)
 go_quiet (fail)
 go_wp2_with (go_at_call 147;refine(Iw B _ tb t k ⟨l.o,l.k.j,0⟩ (by exact m.l.u φ) v n (by exact zX s ζ) q).y ?_;rintro e D ⟨rfl,i,f,b⟩)
 go_ret;exact⟨rfl,i,((zG (a.y s) _)).A f,(vW.of (zG a _)).A b⟩
end
section
open Go.Proofs.Tryz Go.RowKit
variable {lo:Nat}{t:List zf}{o:Option (List zf)}
def o6{a:Ψ}{l:zk}(h:vZ t l=Z a):a.j<=t.j+1:=by
 unfold vZ at h;split at h;split at h<;>simp at h;subst h;omega
 simp at h;subst h;rw[fX];omega
def T7{c:Ψ}{l:zk}(h:vZ t l=Z c)(b:∀e∈t,e.L<=0):∀e∈c,e.L<=0:=by
 unfold vZ at h;split at h;split at h<;>simp at h;subst h;exact b
 simp at h;subst h;intro e a;unfold vP at a;rcases zW.1 a with a|a;exact b e (gZ a);rcases z7.1 a with a|a;subst a;exact ze _;exact b e (fw a)
def uN(o:Option (List zf))(l:zk):Option (List zf):=o.bind (vZ · l)
def zj(c:zd):List zk:=c.g::c.d
def xV(cs:List zd):Option (List zf):=(cs.flatMap zj).H uN (Z [])
def sd(ls:Ω):ls.H uN Y=none:=by
 induction ls with
 |nil=>rfl
 |cons a ls b=>exact b
def eO:∀(ls:Ω) (t:Ψ),(∀e∈t,e.L<=0)->∀a,ls.H uN (Z t)=Z a->∀e∈a,e.L<=0
 |[],t,c,a,h=>by simp at h;subst h;exact c
 |l::ls,t,c,a,h=>by
  simp only[uQ] at h;cases b:vZ t l with
  |none=>rw[show uN (Z t) l=Y from b,sd] at h;cases h
  |some d=>rw[show uN (Z t) l=Z d from b] at h;exact eO ls d (T7 b c) a h
def e8:∀(ls:Ω) (t:Ψ),∀a,ls.H uN (Z t)=Z a->a.j<=t.j+ls.j
 |[],t,a,h=>by simp at h;subst h;simp
 |l::ls,t,a,h=>by
  simp only[uQ] at h;cases b:vZ t l with
  |none=>rw[show uN (Z t) l=Y from b,sd] at h;cases h
  |some c=>rw[show uN (Z t) l=Z c from b] at h;have:=e8 ls c a h;have:=o6 b;simp;omega
def CQ(B:Nat)(w:U)(tb:Nat)(t:Ψ)(l:zk)(b:Option Addr)(a:Nat)(h:TA B w tb t)(g:t.j<=1000)(c:vZ t l=Y):
  c_ e_ 102 #[(π tb),.agg #[.i l.i,.g l.o,.k b l.k.j a]] w λe j=>e=ε (.i false)/\μ w j:=by
 unfold vZ at c;split at c;rename_i f i;split at c;cases c;rename_i d;have:=E7 B w tb t l b a h g f i;rw[decide_eq_false d] at this;exact this;cases c
def I4(B:Nat)(w:U)(tb:Nat)(t n:Ψ)(l:zk)(c:Option Addr)(a:Nat)(h:TA B w tb t)(m:t.j<=1000)(b:vZ t l=Z n)(k:B<=w.o.q)(j:B<=tb):
  c_ e_ 102 #[(π tb),.agg #[.i l.i,.g l.o,.k c l.k.j a]] w λe d=>e=ε (.i true)/\TA B d tb n/\Below B w d/\vW tb w d:=by
 unfold vZ at b;split at b;rename_i p i;split at b;rename_i g;simp at b;subst b;have:=E7 B w tb t l c a h m p i;rw[decide_eq_true g] at this;refine this.y ?_;rintro e d ⟨rfl,f⟩;exact⟨rfl,h.u f,f.y k,vW.of f⟩;cases b;rename_i i;simp at b;subst b;exact Jo B w tb t l c a h m i k j
def BF(o:Option (List zf))(w:U)(e:Ending)(w':U):Prop:=
 μ w w'/\match o with
  |none=>e=ε (.B #[.agg #[ν],.i false])
  |some t=>∃a,e=ε (.B #[.agg #[a],.i true])/\w'.r w.o.q 221 3 a t.j (uh t)
def Ht{w w':U}(h:X (o=Y))(b:μ w w'):BF o w (ε (.B #[.agg #[ν],.i false])) w':=by
 have a:o=none:=h;subst a;exact⟨b,rfl⟩
def MD{w w':U}{a:O}(h:X (o=Z t))(d:μ w w')(b:w'.r w.o.q 221 3 a t.j (uh t)):BF o w (ε (.B #[.agg #[a],.i true])) w':=by
 have c:o=Z t:=h;subst c;exact⟨d,a,rfl,b⟩
def Fi(w:U)(v:O)(cs:Ξ)(I:Vh lo 171 w v cs)(hN:(cs.flatMap zj).j<=1000):
  c_ e_ 62 #[v] w λe w'=>BF (xV cs) w e w':=by
 obtain⟨ao,aG,rfl⟩:=I.qm;have aK:cs.j<=1000:=by
  have:cs.j<=(cs.flatMap zj).j:=by
   clear hN I;induction cs with
   |nil=>simp
   |cons c cs ih=>simp[zj] at ih ⊢;omega
  omega
 go_enter func62,ntmps62;go_wp2;go_loopw [11] (λi wr=>∃(k:Nat) (tk:Ψ),k<=cs.j/\i=ι k/\μ w wr/\TA w.o.q wr (w.o.q+1) tk/\U3 wr w.o.q #[ν] 127/\tk.j+((cs.drop k).flatMap zj).j<=1000/\X (xV cs=((cs.drop k).flatMap zj).H uN (Z tk))) (λi _=>cs.j-(d_ i).D);have r:=(zn w.o.q w).C (ze _) (.E #[ν] 127);exact⟨0,[],zs _,rfl,γ,⟨_,U3.newAt _ _ _ _ ζ,xj _ _ _ _⟩,(U3.new w _ _).u zQ,(by simpa using hN),rfl⟩;obtain⟨k,tk,hk,rfl,n,u,f,ac,H⟩:=hrel;have A:=n.q;have ak:=f.lt;have a4:w.o.q+1<wr.o.q:=by obtain⟨_,hb,_⟩:=u;exact hb.lt
 by_cases ad:k<cs.j
 .have L:=yK ad;obtain⟨g,aL,a1,aI,a2,rfl,hg,M,ae,ai,P,au,aj⟩:=I.cell k ad;have aF:=zi n hg M;have a7:=zi n hg ae;have a6:=zi n hg ai;have a5:=zi n hg P;have aH:g<wr.o.q:=η;clear M ae ai P au;generalize cs[k]=c at *;rw[L] at ac;have H1:X (xV cs=(c.d++(cs.drop (k+1)).flatMap zj).H uN (uN (Z tk) c.g)):=by rw[X,H.l,L];rfl
  simp only[uZ,zj,yB,xp] at ac;generalize hR:(cs.drop (k+1)).flatMap zj=rest at *;have HR:=U2 hR;clear hR H L;rcases h:vZ tk c.g with _|t1
  .have J:=U2 h;have HF:X (xV cs=Y):=by rw[X,H1.l,show uN (Z tk) c.g=Y from h,sd]
   clear H1 h;go_wp2_with (go_at_call 102;refine(CQ w.o.q _ (w.o.q+1) tk c.g _ _ (by exact u.u γ) η J).y ?_;rintro e w1 ⟨rfl,r⟩;have W:=U6 ((zn wr.o.q wr).C (ze _) _) r;have S:=U6 n W;have d:=f.u W;obtain⟨q,R,av⟩:=d.I)
   exact zP (v:=.B #[.agg #[ν],.i false]) (by simp[results,results62,go_sem,q]) rfl (Ht HF γ)
  have J:=U2 h;have aD:=o6 h;have H2:X (xV cs=(c.d++rest).H uN (Z t1)):=by rw[X,H1.l,show uN (Z tk) c.g=Z t1 from h]
  clear H1 h;go_wp2_with (go_at_call 102;refine(I4 w.o.q _ (w.o.q+1) tk t1 c.g _ _ (by exact u.u γ) η J (by exact zX A ζ) η).y ?_;rintro e w1 ⟨rfl,aw,r,C⟩;have S:=(n.C A _).A r;have d:=C.box _ _ _ η θ (f.u zQ);have ag:=C.box _ _ _ η θ (U3.new wr _ _);obtain⟨al,ar,ax⟩:=ag.I;have av:=d.lt)
  go_loopw [23] (λi wj=>∃(j:Nat) (p:Ψ),j<=c.d.j/\i=ι j/\μ w wj/\TA w.o.q wj (w.o.q+1) p/\U3 wj w.o.q #[ν] 127/\p.j+(c.d.drop j).j+rest.j<=1000/\X (xV cs=(c.d.drop j++rest).H uN (Z p))) (λi _=>c.d.j-(d_ i).D);exact⟨0,t1,zs _,rfl,S,aw,d,υ,H2⟩;clear al ar ag ax;obtain⟨j,p,hj,rfl,m,s,b,ab,HJ⟩:=hrel;have E:=m.q;have aq:=b.lt;by_cases Q:j<c.d.j
  .obtain⟨gl,aA,az,rfl,K,af,D,z,_⟩:=aj.cell j Q;have aJ:=zi m K af;have a9:=zi m K D;have aC:=zi m K z;have aB:gl<wr.o.q:=η;have G:=yK Q;clear af D z;generalize c.d[j]=a at *;rw[G] at ab;have x:X (xV cs=(c.d.drop (j+1)++rest).H uN (uN (Z p) a)):=by rw[X,HJ.l,G];rfl
   simp only[xp] at ab;clear G HJ;rcases h:vZ p a with _|t2
   .have J:=U2 h;have HF:X (xV cs=Y):=by rw[X,x.l,show uN (Z p) a=Y from h,sd]
    clear x h;go_wp2_with (go_at_call 102;refine(CQ w.o.q _ (w.o.q+1) p a _ _ (by exact s.u γ) η J).y ?_;rintro e w3 ⟨rfl,F⟩;have T:=U6 ((zn wr.o.q wr).C (ze _) _) F;have y:=U6 m T;have l:=b.u T;obtain⟨q,R,a8⟩:=l.I)
    exact zP (v:=.B #[.agg #[ν],.i false]) (by simp[results,results62,go_sem,q]) rfl (Ht HF γ)
   have J:=U2 h;have aE:=o6 h;have am:X (xV cs=(c.d.drop (j+1)++rest).H uN (Z t2)):=by rw[X,x.l,show uN (Z p) a=Z t2 from h]
   have a0:w.o.q+1<wr.o.q:=by obtain⟨_,hb,_⟩:=s;exact hb.lt
   clear x h;go_wp2_with (go_at_call 102;refine(I4 w.o.q _ (w.o.q+1) p t2 a _ _ (by exact s.u γ) η J (by exact zX E ζ) η).y ?_;rintro e w3 ⟨rfl,ap,F,N⟩;have y:=(m.C E _).A F;have l:=N.box _ _ _ η θ (b.u zQ))
   go_roundw;exact⟨j+1,t2,η,ξ,y,ap,l,η,am⟩;simp[d_];omega
  have HE:X (xV cs=((cs.drop (k+1)).flatMap zj).H uN (Z p)):=by rw[X,HJ.l,uk η,HR.l];rfl
  have ay:p.j+rest.j<=1000:=η;clear HJ;go_wp2;go_roundw;exact⟨k+1,p,η,ξ,m,s,b,by rw[HR.l];exact ay,HE⟩;simp[d_];omega
 have HF:X (xV cs=Z tk):=by rw[X,H.l,uk η];rfl
 obtain⟨ah,B,aa,V⟩:=u.view;obtain⟨hc,hf⟩:=aa.H;obtain⟨q,R⟩:=f.H;have a3:=aa.lt;clear H;go_wp2;have an:=xJ V ((UF.refl w.o.q wr).x 0 (.k ah tk.j B)) f θ;exact zP (v:=.B #[.agg #[.k ah tk.j B],.i true]) (by simp[results,results62,go_sem,q]) rfl (MD HF γ an)
end
section
open Go.Proofs.Tryz Go.RowKit
variable {lo:Nat}
def ul:ByteArray:=⟨#[44,32]⟩
def yD:κ->ByteArray
 |[]=>g_
 |[t]=>t
 |t::r=>t++ul++yD r
def DO:∀(l:List Λ) (x:Λ),l≠[]->yD (l++[x])=yD l++ul++x
 |[],_,h=>zC rfl h
 |[t],x,_=>rfl
 |t::u::r,x,_=>by
  show t++ul++yD (u::(r++[x]))=t++ul++yD (u::r)++ul++x;have:=DO (u::r) x ζ;rw[dM] at this;rw[this];simp only[r_]
def wg{l:List Λ}{k:Nat}(a:k<l.j):yD (l.G (k+1))=if k=0 then l[k] else yD (l.G k)++ul++l[k]:=by
 rw[yF a];split;rename_i h;subst h;rfl;rw[DO];intro h;have:=congrArg L_ h;rw[vi,jD] at this;omega
def O1(w:U)(v:O)(l:List Λ)(hs:U7 lo w v l)(G:l.j<=1000)(n:∀t∈l,t.q<=6):
  c_ e_ 169 #[v] w λe r=>e=ε (.g (yD l))/\μ w r:=by
 obtain⟨F,z,rfl⟩:=hs.qm;have p:=U2 n;clear n;go_enter func169,ntmps169;go_wp2;go_loopw [3,8] (λy o wr=>∃(k:Nat) (s:Λ),k<=l.j/\o=ι k/\y=.g s/\s.q<=8*k/\X (s=yD (l.G k))/\μ w wr) (λ_ i _=>l.j-(d_ i).D);exact⟨0,_,zs _,rfl,rfl,ze _,rfl,zn _ _⟩;obtain⟨k,s,E,rfl,rfl,A,H,b⟩:=hrel;have m:=b.q;by_cases a:k<l.j
 .obtain⟨g,rfl,q,d⟩:=hs.cell k a;have C:=zi b q d;have D:g<wr.o.q:=η;have h:=wg a;have u:=p.l _ (zr a);clear d;generalize l[k]=x at *;by_cases f:k=0
  .have c:X (s++x=yD (l.G (k+1))):=by rw[X,h,zb f,H.l,f];simp[yD]
   subst f;clear h H;go_wp2;go_roundw;exact⟨1,s++x,η,ξ,rfl,(by rw[h_];omega),c,γ⟩;simp[d_];omega
  have c:X (s++ul++x=yD (l.G (k+1))):=by rw[X,h,za f,H.l]
  have j:ul.q=2:=rfl;have B:(s++ul).q=s.q+2:=by rw[h_,j]
  clear h H;go_wp2;go_roundw;exact⟨k+1,s++ul++x,η,ξ,rfl,(by rw[h_];omega),c,γ⟩;simp[d_];omega
 have c:X (s=yD l):=by rw[X,H.l,yO η]
 clear H;go_wp2;go_ret;exact⟨by rw[←c.l];rfl,b⟩
def kc:ByteArray:=⟨#[33]⟩
def jz:ByteArray:=⟨#[40]⟩
def lq:ByteArray:=⟨#[41]⟩
def gV(l:zk):ByteArray:=if l.i then kc++l.o else l.o
def xb(l:zk):ByteArray:=if l.k.j=0 then gV l else gV l++jz++yD l.k++lq
def oN:∀(l:List Λ),(∀t∈l,t.q<=6)->(yD l).q<=8*l.j
 |[],_=>by simp[yD]
 |[t],h=>by have:=h t ζ;simp[yD];omega
 |t::u::r,h=>by
  have c:=h t ζ;have a:=oN (u::r) λx b=>h x (pf _ b);show(t++ul++yD (u::r)).q<=_;rw[h_,h_,show ul.q=2 from rfl];simp only[xp] at a ⊢;omega
def oz{l:zk}(h:l.o.q<=6):(gV l).q<=7:=by
 unfold gV;split;rw[h_,show kc.q=1 from rfl];omega;omega
def mW(l:zk):Prop:=l.o.q<=6/\0<l.o.q/\l.k.j<=1000/\∀t∈l.k,0<t.q/\t.q<=6
def wD{l:zk}(h:mW l):(xb l).q<=9+8*l.k.j:=by
 obtain⟨c,_,_,b⟩:=h;have d:=oz c;unfold xb;split;omega;rw[h_,h_,h_,show jz.q=1 from rfl,show lq.q=1 from rfl];have:=oN l.k λt a=>(b t a).2;omega
def Gh(w:U)(l:zk)(o:O)(hs:U7 lo w o l.k)(r:mW l):
  c_ e_ 131 #[.agg #[.i l.i,.g l.o,o]] w λe y=>e=ε (.g (xb l))/\μ w y:=by
 obtain⟨C,z,rfl⟩:=hs.qm;obtain⟨B,F,x,m⟩:=r;have k:=U2 λt q=>(m t q).2;have i:=U2 λW A=>O1 W _ l.k (hs.u A) x k.l;have E:=oN l.k k.l;have u:kc.q=1:=rfl;have s:jz.q=1:=rfl;have p:lq.q=1:=rfl;clear m;cases b:l.i
 .by_cases f:l.k.j=0
  .have c:X (xb l=l.o):=by unfold X xb gV;rw[zb f,b];rfl
   have d:((l.k.j:Int) == 0)=true:=by rw[beq_iff_eq];omega
   clear b;generalize yD l.k=j at *;generalize l.k.j=n at *;go_enter func131,ntmps131;go_wp2;go_ret;exact⟨by rw[c.l];rfl,γ⟩
  have c:X (xb l=l.o++jz++yD l.k++lq):=by unfold X xb gV;rw[za f,b];rfl
  have d:((l.k.j:Int) == 0)=false:=by rw[beq_eq_false_iff_ne];omega
  have h:(l.o++jz).q<=8:=by rw[h_];omega
  have g:(l.o++jz++yD l.k).q<=8+8*l.k.j:=by rw[h_];omega
  clear b;generalize yD l.k=j at *;generalize l.k.j=n at *;go_enter func131,ntmps131;go_wp2_with (go_at_call 169;refine(i.l _ γ).y ?_;rintro e v ⟨rfl,a⟩)
  go_ret;exact⟨by rw[c.l];rfl,U6 ((zn w.o.q w).C (ze _) _) a⟩
 have D:(kc++l.o).q<=7:=by rw[h_];omega
 by_cases f:l.k.j=0
 .have c:X (xb l=kc++l.o):=by unfold X xb gV;rw[zb f,b];rfl
  have d:((l.k.j:Int) == 0)=true:=by rw[beq_iff_eq];omega
  clear b;generalize yD l.k=j at *;generalize l.k.j=n at *;go_enter func131,ntmps131;go_wp2;go_ret;exact⟨by rw[c.l];rfl,γ⟩
 have c:X (xb l=kc++l.o++jz++yD l.k++lq):=by unfold X xb gV;rw[za f,b];rfl
 have d:((l.k.j:Int) == 0)=false:=by rw[beq_eq_false_iff_ne];omega
 have h:(kc++l.o++jz).q<=8:=by rw[h_];omega
 have g:(kc++l.o++jz++yD l.k).q<=8+8*l.k.j:=by rw[h_];omega
 clear b;generalize yD l.k=j at *;generalize l.k.j=n at *;go_enter func131,ntmps131;go_wp2_with (go_at_call 169;refine(i.l _ γ).y ?_;rintro e v ⟨rfl,a⟩)
 go_ret;exact⟨by rw[c.l];rfl,U6 ((zn w.o.q w).C (ze _) _) a⟩
def fH:ByteArray:=⟨#[32,58,45,32]⟩
def rZ:ByteArray:=⟨#[46]⟩
def pP:ByteArray:=⟨#[10]⟩
def Vi(b:List zk):ByteArray:=if b.j=0 then g_ else fH++yD (b.map xb)
def W9(c:zd):ByteArray:=xb c.g++Vi c.d++rZ
def mJ(c:zd):Prop:=(∀l∈zj c,mW l)/\c.d.j<=1000
def LT{b:Ω}{k:Nat}(a:k<b.j)(s:Λ):s++Vi (b.G (k+1))=if k=0 then s++fH++xb b[k] else s++Vi (b.G k)++ul++xb b[k]:=by
 have c:(b.G (k+1)).j≠0:=by rw[vi];omega
 have d:yD ((b.G (k+1)).map xb)=if k=0 then xb b[k] else yD ((b.G k).map xb)++ul++xb b[k]:=by
  have:=wg (l:=b.map xb) (k:=k) (by simpa using a);rw[←we,←we] at this;simpa using this
 unfold Vi;rw[za c,d];split;rw[r_];rw[za (by rw[vi];omega)];simp only[r_]
def TD(w:U)(c:zd)(Q vb:O)(hs:U7 lo w Q c.g.k)(M:Vd lo w vb c.d)(V:mJ c):
  c_ e_ 85 #[.agg #[.i c.g.i,.g c.g.o,Q,vb]] w λe w'=>e=ε (.g (W9 c))/\μ w w':=by
 obtain⟨N,A,rfl⟩:=hs.qm;obtain⟨o,g,rfl⟩:=M.qm;obtain⟨d,ad⟩:=V;have HF:=U2 d;have B:=d c.g (by simp[zj]);have ah:=wD B;have ae:=B.2.2.1;have HH:=U2 λW L=>Gh W c.g _ (hs.u L) B;have HC:X (W9 c=xb c.g++Vi c.d++rZ):=rfl;clear d B;generalize W9 c=tc at *;generalize xb c.g=z at *;go_enter func85,ntmps85;go_wp2_with (go_at_call 131;refine(HH.l _ γ).y ?_;rintro e w1 ⟨rfl,q⟩;have F:=U6 ((zn w.o.q w).C (ze _) (.E #[.i c.g.i,.g c.g.o,.k N c.g.k.j A,.k o c.d.j g] 171)) q;have x:=(U3.new w #[.i c.g.i,.g c.g.o,.k N c.g.k.j A,.k o c.d.j g] 171).u q;obtain⟨G,d,P⟩:=x.I)
 clear G d;go_loopw [3,12] (λv3 K wr=>∃(k:Nat) (s:Λ),k<=c.d.j/\K=ι k/\v3=.g s/\s.q<=10000*(k+1)/\X (s=z++Vi (c.d.G k))/\μ w wr) (λ_ i _=>c.d.j-(d_ i).D);exact⟨0,z,zs _,rfl,rfl,η,(by simp[X,Vi]),F⟩;obtain⟨k,s,hk,rfl,rfl,ai,H,b⟩:=hrel;have j:=b.q;by_cases t:k<c.d.j
 .obtain⟨gl,ag,R,rfl,m,p,r,u,y⟩:=M.cell k t;have ab:=zi b m p;have af:=zi b m r;have ac:=zi b m u;have ak:gl<wr.o.q:=η;have D:=LT t z;have f:=HF.l c.d[k] (by simp[zj]);have h:=y.u b;clear p r u y;generalize c.d[k]=a at *;have aa:=wD f;have T:=f.2.2.1;have S:=U2 λW L=>Gh W a _ (h.u L) f;clear h f;generalize xb a=E at *;have J:fH.q=4:=rfl;have I:ul.q=2:=rfl;by_cases C:k=0
  .have v:X (s++fH++E=z++Vi (c.d.G (k+1))):=by rw[X,D,zb C,H.l,C];simp[Vi]
   have hq:(s++fH).q=s.q+4:=by rw[h_,J]
   subst C;clear D H;go_wp2_with (go_at_call 131;refine(S.l _ γ).y ?_;rintro e w2 ⟨rfl,l⟩;have n:=U6 (b.C j _) l)
   go_roundw;exact⟨1,s++fH++E,η,ξ,rfl,(by rw[h_];omega),v,n⟩;simp[d_];omega
  have v:X (s++ul++E=z++Vi (c.d.G (k+1))):=by rw[X,D,za C,H.l]
  have hq:(s++ul).q=s.q+2:=by rw[h_,I]
  clear D H;go_wp2_with (go_at_call 131;refine(S.l _ γ).y ?_;rintro e w2 ⟨rfl,l⟩;have n:=U6 (b.C j _) l)
  go_roundw;exact⟨k+1,s++ul++E,η,ξ,rfl,(by rw[h_];omega),v,n⟩;simp[d_];omega
 have v:X (s++rZ=tc):=by rw[X,HC.l,H.l,yO η]
 have aj:rZ.q=1:=rfl;clear H;go_wp2;go_ret;exact⟨by rw[←v.l];rfl,b⟩
end
section
open Go.Proofs.Tryz Go.RowKit
variable {lo:Nat}{r r2:List UA}
def gI(l:zk):Nat:=l.k.j+1
def Wg(ls:List zk):Nat:=ls.foldr (λl n=>gI l+n) 0
def Wy(c:zd):Nat:=gI c.g+Wg c.d
def VY(cs:List zd):Nat:=cs.foldr (λc n=>Wy c+n) 0
def Ie:∀(r:Δ) {ts:List Λ} {r2:Δ},y5 r=Z (ts,r2)->ts.j+r2.j<=r.j
 |[],_,_,h=>by simp[y5] at h
 |[x],ts,r2,h=>by
  simp only[y5] at h;split at h<;>simp at h
  obtain⟨rfl,rfl⟩:=h;simp
 |x::y::r,ts,r2,h=>by
  simp only[y5] at h;split at h
  .split at h
   .cases a:y5 r with
    |none=>rw[a] at h;simp at h
    |some z=>
     obtain⟨b,c⟩:=z;rw[a] at h;simp at h;have:=Ie r a;obtain⟨rfl,rfl⟩:=h;simp;omega
   .simp at h;obtain⟨rfl,rfl⟩:=h;simp;omega
  .simp at h
def oC{a:zk}(h:x6 r=Z (a,r2)):gI a+r2.j<=r.j:=by
 rcases r with _|⟨x,r⟩;simp[x6,US] at h;unfold x6 at h;split at h;split at h;split at h;simp at h;rename_i c d b;have:=Ie _ b;split at h<;>simp at h
 obtain⟨rfl,rfl⟩:=h;simp[gI] at this ⊢;omega;simp at h;obtain⟨rfl,rfl⟩:=h;simp[gI];omega;simp at h
def Rs{a:zk}(h:vm r=Z (a,r2)):gI a+r2.j<=r.j:=by
 unfold vm at h;split at h;rcases b:x6 r.tail with _|z;rw[b] at h;simp at h;obtain⟨c,d⟩:=z;rw[b] at h;simp at h;have:=oC b;obtain⟨rfl,rfl⟩:=h;simp[gI] at this ⊢;omega;exact oC h
def Ka{n:Nat}:∀{r r2:Δ} {b:Ω},un n r=Z (b,r2)->Wg b+r2.j<=r.j:=by
 induction n with
 |zero=>intro r r2 b h;simp[un] at h
 |succ n g=>
  intro r r2 b h;rcases c:vm r with _|z;rw[tK c] at h;cases h;obtain⟨a,f⟩:=z;have:=Rs c;by_cases e:US f=6;rw[rJ c e] at h;rcases d:un n f.tail with _|z;rw[d] at h;simp at h;rw[d] at h;simp at h;have:=g d;obtain⟨rfl,rfl⟩:=h;simp[Wg] at this ⊢;omega;rw[sI c e] at h;simp at h;obtain⟨rfl,rfl⟩:=h;simp[Wg];omega
def OB{n:Nat}{c:zd}(h:vJ n r=Z (c,r2)):Wy c+r2.j<=r.j:=by
 unfold vJ at h;split at h;cases h;rename_i a f d;have:=oC d;split at h;split at h;cases h;rename_i b g e;have:=Ka e;split at h<;>simp at h
 obtain⟨rfl,rfl⟩:=h;simp[Wy] at this ⊢;omega;split at h<;>simp at h
 obtain⟨rfl,rfl⟩:=h;simp[Wy,Wg];omega
def oe{d:Nat}:∀{m:Nat} {r:Δ} {cs:Ξ},yW d m r=Z cs->VY cs<=r.j
 |_,[],cs,h=>by simp[yW] at h;subst h;simp[VY]
 |0,_::_,cs,h=>by simp[yW] at h
 |m+1,x::r,cs,h=>by
  cases b:vJ d (x::r) with
  |none=>rw[i7 ζ b] at h;cases h
  |some z=>
   obtain⟨c,r2⟩:=z;rw[tR ζ b] at h;cases a:yW d m r2 with
   |none=>rw[a] at h;simp at h
   |some f=>
    rw[a] at h;simp at h;subst h;have e:=OB b;have g:=oe a;simp only[VY,List.foldr_cons,xp] at e g ⊢;omega
def tU(ls:Ω):xn ls+ls.j=Wg ls:=by
 induction ls with
 |nil=>rfl
 |cons a ls b=>simp[xn,Wg,gI] at b ⊢;omega
def Bp{cs:Ξ}{c:zd}(h:c∈cs):Wy c<=VY cs:=by
 induction cs with
 |nil=>cases h
 |cons a cs b=>
  rcases z7.1 h with rfl|h;simp[VY];have:=b h;simp[VY] at this ⊢;omega
def oI(cs:Ξ):(cs.flatMap zj).j<=VY cs:=by
 induction cs with
 |nil=>simp
 |cons a cs b=>have:=tU a.d;simp[VY,Wy,zj,gI] at b ⊢;omega
def AO(cs:Ξ):cs.j<=VY cs:=by
 induction cs with
 |nil=>simp
 |cons a cs b=>simp[VY,Wy,gI] at b ⊢;omega
def A3{cs:Ξ}(h:VY cs<=1000):∀c∈cs,vV c:=λc a=>by
 have b:=Bp a;have d:=tU c.d;unfold Wy gI at b;exact⟨η,η⟩
def Ay:∀(n:Nat) (s:Λ) (i:Nat) (l:List (Int×Λ)),UJ n s i=Z l->l.j<=s.q-i
 |0,_,_,l,h=>by simp[UJ] at h;subst h;simp
 |n+1,s,i,l,h=>by
  unfold UJ at h;split at h
  .rename_i d;split at h
   .have:=Ay n s (i+1) l h;omega
   .split at h
    .cases h
    .rename_i b;split at h
     .cases h
     .cases a:UJ n s (y7 s i (xy (UC s i) (UC s (i+1)))) with
      |none=>rw[a] at h;simp at h
      |some c=>
       rw[a] at h;simp at h;subst h;have:=Ay n s _ c a;have:=wH s i _ d rfl b;simp;omega
  .simp at h;subst h;simp
def iq{s:Λ}{l:Δ}(h:UG s=Z l):l.j<=s.q:=by have:=Ay _ s 0 l h;omega
def uH(s:ByteArray):Except Int (List zd×List zf):=
 if 500<s.q then .error 1 else
 match UG s with
 |none=>.error 2
 |some l=>
  match yW l.j l.j l with
  |none=>.error 3
  |some a=>
   if a.any yT then .error 4 else
   match xV a with
   |none=>.error 5
   |some t=>
    if a.all xu then
     if (xX (t.j+1) t a).2 then .ok (a,(xX (t.j+1) t a).1) else .error 7
    else .error 6
def nz(o:Except Int (List zd×List zf))(w:U)(e:Ending)(w':U):Prop:=
 μ w w'/\match o with
  |.error n=>e=ε (.B #[.u Y,ι n])
  |.ok (c,t)=>∃a v b,e=ε (.B #[(π a),ι 0])/\U3 w' a #[v,b] 131/\Vh w.o.q 171 w' v c/\w'.r w.o.q 221 3 b t.j (uh t)/\w.o.q<=a
def P6(s:Λ)(w:U)(hs:s.q<=500)(h:UG s=Y):c_ e_ 59 #[.g s] w λe a=>e=ε (.B #[ν,.i false])/\μ w a:=by
 refine(Fx s w hs).y ?_;rintro e a ⟨c,b⟩;rw[h] at b;exact⟨b,c⟩
def rX(s:Λ)(w:U)(l:Δ)(hs:s.q<=500)(h:UG s=Z l):c_ e_ 59 #[.g s] w λe d=>∃v,e=ε (.B #[v,.i true])/\d.r w.o.q 182 2 v l.j (kC l)/\l.j<=500/\μ w d:=by
 refine(Fx s w hs).y ?_;rintro e d ⟨g,f⟩;rw[h] at f;obtain⟨v,a,b,c⟩:=f;exact⟨v,a,b,η,g⟩
def K8(w:U)(b:O)(l:Δ)(a:Nat)(g:w.r a 182 2 b l.j (kC l))(i:l.j<=500)(h:yW l.j l.j l=Y):
  c_ e_ 60 #[b] w λe d=>e=ε (.B #[ν,.i false])/\μ w d:=by
 refine(VO w b l a g i).y ?_;rintro e d ⟨f,c⟩;rw[h] at c;exact⟨c,f⟩
def tw(w:U)(d:O)(l:Δ)(c:Nat)(cs:Ξ)(j:w.r c 182 2 d l.j (kC l))(k:l.j<=500)(h:yW l.j l.j l=Z cs):
  c_ e_ 60 #[d] w λe f=>∃v,e=ε (.B #[v,.i true])/\Vh w.o.q 171 f v cs/\μ w f:=by
 refine(VO w d l c j k).y ?_;rintro e f ⟨i,g⟩;rw[h] at g;obtain⟨v,a,b⟩:=g;exact⟨v,a,b,i⟩
def OA(w:U)(v:O)(cs:Ξ)(a:Vh lo 171 w v cs)(d:(cs.flatMap zj).j<=1000)(h:xV cs=Y):
  c_ e_ 62 #[v] w λe c=>e=ε (.B #[.agg #[ν],.i false])/\μ w c:=by
 refine(Fi w v cs a d).y ?_;rintro e c ⟨f,b⟩;rw[h] at b;exact⟨b,f⟩
def oY(w:U)(v:O)(cs:Ξ)(t:Ψ)(c:Vh lo 171 w v cs)(i:(cs.flatMap zj).j<=1000)(h:xV cs=Z t):
  c_ e_ 62 #[v] w λe d=>∃f,e=ε (.B #[.agg #[f],.i true])/\d.r w.o.q 221 3 f t.j (uh t)/\μ w d:=by
 refine(Fi w v cs c i).y ?_;rintro e d ⟨j,g⟩;rw[h] at g;obtain⟨v,a,b⟩:=g;exact⟨v,a,b,j⟩
def PV(s:Λ)(w:U)(hs:500<s.q)(b:s.q<=9223372036854775807):
  c_ e_ 32 #[.g s] w λe a=>nz (.error 1) w e a:=by
 go_enter func32,ntmps32;go_wp2;go_ret2
 exact⟨zn _ _,rfl⟩
def Lj(s:Λ)(w:U)(hs:s.q<=500)(b:UG s=Y):
  c_ e_ 32 #[.g s] w λe d=>nz (.error 2) w e d:=by
 have c:=U2 b;clear b;go_enter func32,ntmps32;go_wp2_with (go_at_call 59;refine(P6 s _ hs c).y ?_;rintro e f ⟨rfl,a⟩)
 go_ret2
 exact⟨a,rfl⟩
def MT(s:Λ)(w:U)(hs:s.q<=500)(l:Δ)(g:UG s=Z l)(h:yW l.j l.j l=Y):
  c_ e_ 32 #[.g s] w λe n=>nz (.error 3) w e n:=by
 have k:=U2 g;have m:=U2 h;clear g h;go_enter func32,ntmps32;go_wp2_with (first|(go_at_call 59;refine(rX s _ l hs k).y ?_;rintro e o ⟨p,rfl,a,f,b⟩;obtain⟨j,i,rfl⟩:=zq a)|(go_at_call 60;refine(K8 _ _ l _ a f m).y ?_;rintro e q ⟨rfl,d⟩;have c:=U6 b d))
 go_ret2
 exact⟨c,rfl⟩
def L5(s:Λ)(w:U)(hs:s.q<=500)(l:Δ)(cs:Ξ)(D:cs.any yT=true)(y:UG s=Z l)(z:yW l.j l.j l=Z cs)(n:∀c∈cs,vV c)(g:cs.j<=1000):
  c_ e_ 32 #[.g s] w λe B=>nz (.error 4) w e B:=by
 have u:=U2 y;have A:=U2 z;have m:=U2 n;have f:=U2 g;go_enter func32,ntmps32;go_wp2_with (first|(go_at_call 59;refine(rX s _ l hs u).y ?_;rintro e E ⟨C,rfl,b,p,k⟩;obtain⟨x,q,rfl⟩:=zq b)|(go_at_call 60;refine(tw _ _ l _ cs b p A).y ?_;rintro e H ⟨F,rfl,a,i⟩;obtain⟨v,t,rfl⟩:=a.qm;have o:=U6 k i)|(go_at_call 61;refine(wE _ _ cs a m.l f.l).y ?_;rintro e G ⟨rfl,d⟩;have h:=U6 o d;have j:=a.u d))
 go_ret2
 exact⟨h,rfl⟩
def Sa(s:Λ)(w:U)(hs:s.q<=500)(l:Δ)(cs:Ξ)(K:cs.any yT=false)(E:UG s=Z l)(F:yW l.j l.j l=Z cs)(t:∀c∈cs,vV c)(j:cs.j<=1000)(g:(cs.flatMap zj).j<=1000)(B:xV cs=Y):
  c_ e_ 32 #[.g s] w λe H=>nz (.error 5) w e H:=by
 have z:=U2 E;have G:=U2 F;have p:=U2 t;have i:=U2 j;have f:=U2 g;have I:=U2 B;go_enter func32,ntmps32;go_wp2_with (first|(go_at_call 59;refine(rX s _ l hs z).y ?_;rintro e L ⟨J,rfl,b,v,o⟩;obtain⟨D,x,rfl⟩:=zq b)|(go_at_call 60;refine(tw _ _ l _ cs b v G).y ?_;rintro e Q ⟨M,rfl,a,n⟩;obtain⟨A,y,rfl⟩:=a.qm;have u:=U6 o n)|(go_at_call 61;refine(wE _ _ cs a p.l i.l).y ?_;rintro e N ⟨rfl,h⟩;have m:=U6 u h;have d:=a.u h)|(go_at_call 62;refine(OA _ _ cs d f.l I).y ?_;rintro e P ⟨rfl,q⟩;have k:=U6 m q;have C:=k.q))
 go_ret2
 exact⟨γ,rfl⟩
def Ma(s:Λ)(w:U)(hs:s.q<=500)(l:Δ)(cs:Ξ)(t:Ψ)(hm:cs.any yT=false)(S:cs.all xu=false)(P:UG s=Z l)(Q:yW l.j l.j l=Z cs)(B:∀c∈cs,vV c)(n:cs.j<=1000)(i:(cs.flatMap zj).j<=1000)(L:xV cs=Z t):
  c_ e_ 32 #[.g s] w λe T=>nz (.error 6) w e T:=by
 have J:=U2 P;have R:=U2 Q;have m:=U2 B;have d:=U2 n;have g:=U2 i;have V:=U2 L;go_enter func32,ntmps32;go_wp2_with (first|(go_at_call 59;refine(rX s _ l hs J).y ?_;rintro e w1 ⟨fv,rfl,f,F,y⟩;obtain⟨N,H,rfl⟩:=zq f)|(go_at_call 60;refine(tw _ _ l _ cs f F R).y ?_;rintro e w2 ⟨cv,rfl,b,v⟩;obtain⟨K,I,rfl⟩:=b.qm;have D:=U6 y v)|(go_at_call 61;refine(wE _ _ cs b m.l d.l).y ?_;rintro e w3 ⟨rfl,j⟩;have u:=U6 D j;have a:=b.u j)|(go_at_call 62;refine(oY _ _ cs t a g.l V).y ?_;rintro e G ⟨W,rfl,A,o⟩;obtain⟨E,q,rfl⟩:=zq A;have k:=U6 u o;have M:=k.q;have h:=a.u o)|(go_at_call 63;refine(B8 _ _ cs (by exact h.u γ) m.l d.l).y ?_;rintro e w5 ⟨rfl,x⟩;have z:=(zn G.o.q G).C (ze _) (.E #[.k E t.j q] 127);have p:=U6 z x;have C:=U6 k p))
 go_ret2
 exact⟨C,rfl⟩
def M3(s:Λ)(w:U)(hs:s.q<=500)(l:Δ)(cs:Ξ)(t:Ψ)(hm:cs.any yT=false)(af:cs.all xu=true)(ah:(xX (t.j+1) t cs).2=false)(hS:UG s=Z l)(hP:yW l.j l.j l=Z cs)(H:∀c∈cs,vV c)(v:cs.j<=1000)(n:(cs.flatMap zj).j<=1000)(hC:xV cs=Z t)(C:t.j<=1000)(L:∀e∈t,e.L<=0):
  c_ e_ 32 #[.g s] w λe w'=>nz (.error 7) w e w':=by
 have W:=U2 hS;have HP:=U2 hP;have i:=U2 H;have b:=U2 v;have k:=U2 n;have HC:=U2 hC;have G:=U2 C;have Q:=U2 L;go_enter func32,ntmps32;go_wp2_with (first|(go_at_call 59;refine(rX s _ l hs W).y ?_;rintro e w1 ⟨fv,rfl,g,N,E⟩;obtain⟨ad,T,rfl⟩:=zq g)|(go_at_call 60;refine(tw _ _ l _ cs g N HP).y ?_;rintro e w2 ⟨cv,rfl,d,D⟩;obtain⟨aa,V,rfl⟩:=d.qm;have K:=U6 E D)|(go_at_call 61;refine(wE _ _ cs d i.l b.l).y ?_;rintro e S ⟨rfl,o⟩;have q:=U6 K o;have a:=d.u o)|(go_at_call 62;refine(oY _ _ cs t a k.l HC).y ?_;rintro e A ⟨pv,rfl,x,j⟩;obtain⟨M,z,rfl⟩:=zq x;have p:=U6 q j;have ab:=p.q;have m:=a.u j)|(go_at_call 63;refine(B8 _ _ cs (by exact m.u γ) i.l b.l).y ?_;rintro e w5 ⟨rfl,u⟩;have F:=(zn A.o.q A).C (ze _) (.E #[.k M t.j z] 127);have f:=U6 F u;have I:=U6 p f)|(go_at_call 64;refine(FC S.o.q _ A.o.q t _ cs S rfl (U6 j f) a i.l b.l ⟨_,(U3.new A _ _).u u,zy x f⟩ G.l Q.l).y ?_;rintro e w6 ⟨rfl,y,B⟩;obtain⟨ai,R,h,P⟩:=y.view;obtain⟨ae,ag⟩:=h.H;have J:=I.A (B.y (zX q.q (ze _)));have ac:=h.lt))
 go_ret2
 exact⟨J,rfl⟩
def KW(s:Λ)(w:U)(hs:s.q<=500)(l:Δ)(cs:Ξ)(t:Ψ)(hm:cs.any yT=false)(ag:cs.all xu=true)(ai:(xX (t.j+1) t cs).2=true)(hS:UG s=Z l)(hP:yW l.j l.j l=Z cs)(K:∀c∈cs,vV c)(A:cs.j<=1000)(q:(cs.flatMap zj).j<=1000)(hC:xV cs=Z t)(G:t.j<=1000)(P:∀e∈t,e.L<=0):
  c_ e_ 32 #[.g s] w λe w'=>nz (.ok (cs,(xX (t.j+1) t cs).1)) w e w':=by
 have HS:=U2 hS;have HP:=U2 hP;have k:=U2 K;have d:=U2 A;have m:=U2 q;have HC:=U2 hC;have J:=U2 G;have S:=U2 P;go_enter func32,ntmps32;go_wp2_with (first|(go_at_call 59;refine(rX s _ l hs HS).y ?_;rintro e w1 ⟨fv,rfl,h,R,z⟩;obtain⟨ae,W,rfl⟩:=zq h)|(go_at_call 60;refine(tw _ _ l _ cs h R HP).y ?_;rintro e w2 ⟨cv,rfl,f,H⟩;obtain⟨ab,aa,rfl⟩:=f.qm;have N:=U6 z H)|(go_at_call 61;refine(wE _ _ cs f k.l d.l).y ?_;rintro e V ⟨rfl,u⟩;have j:=U6 N u;have a:=f.u u)|(go_at_call 62;refine(oY _ _ cs t a m.l HC).y ?_;rintro e F ⟨pv,rfl,B,g⟩;obtain⟨Q,E,rfl⟩:=zq B;have v:=U6 j g;have ac:=v.q;have n:=a.u g)|(go_at_call 63;refine(B8 _ _ cs (by exact n.u γ) k.l d.l).y ?_;rintro e w5 ⟨rfl,y⟩;have I:=(zn F.o.q F).C (ze _) (.E #[.k Q t.j E] 127);have b:=U6 I y;have L:=U6 v b)|(go_at_call 64;refine(FC V.o.q _ F.o.q t _ cs V rfl (U6 g b) a k.l d.l ⟨_,(U3.new F _ _).u y,zy B b⟩ J.l S.l).y ?_;rintro e w6 ⟨rfl,C,x⟩;obtain⟨aj,T,i,p⟩:=C.view;obtain⟨af,ah⟩:=i.H;have M:=L.A (x.y (zX j.q (ze _)));have ad:=i.lt))
 have D:=M.q;have o:=a.u ((U6 g b).A x);go_ret2
 exact⟨γ,w6.o.q,_,_,rfl,U3.new _ _ _,(o.low z.q).u zQ,yq (zy p zQ) j.q,D⟩
def Ho(s:Λ)(w:U)(q:s.q<=9223372036854775807):
  c_ e_ 32 #[.g s] w λe v=>nz (uH s) w e v:=by
 unfold uH;split;rename_i u;exact PV s w u q;rename_i u;have c:s.q<=500:=η;split;rename_i h;exact Lj s w c h;rename_i l h;split;rename_i j;exact MT s w c l h j;rename_i d j;have x:l.j<=500:=by
  have:=iq h;omega
 have y:=oe j;have f:=A3 (cs:=d) η;have b:d.j<=1000:=by have:=AO d;omega
 have a:(d.flatMap zj).j<=1000:=by have:=oI d;omega
 split;rename_i p;exact L5 s w c l d p h j f b;rename_i p;have g:d.any yT=false:=by simpa using p
 split;rename_i k;exact Sa s w c l d g h j f b a k;rename_i t k;have n:t.j<=1000:=by have:=e8 _ _ _ k;simp only[jD] at this;omega
 have o:=eO _ [] ζ t k;split;rename_i i;split;rename_i m;exact KW s w c l d t g i m h j f b a k n o;rename_i m;exact M3 s w c l d t g i (by simpa using m) h j f b a k n o;rename_i i;exact Ma s w c l d t g (by simpa using i) h j f b a k
end
section
open Go.Proofs.Tryz Go.RowKit
variable {lo:Nat}
def TP(B:Nat)(w:U)(tb:Nat)(t:List zf):Prop:=∃b a,U3 w tb #[b,a] 131/\w.r B 221 3 a t.j (uh t)
def TP.u{B:Nat}{w w':U}{tb:Nat}{t:Ψ}(h:TP B w tb t)(a:μ w w'):TP B w' tb t:=by
 obtain⟨c,d,b,e⟩:=h;exact⟨c,d,b.u a,zy e a⟩
def TP.view{B:Nat}{w:U}{tb:Nat}{t:Ψ}(h:TP B w tb t):∃c b a,U3 w tb #[c,.k b t.j a] 131/\w.r B 221 3 (.k b t.j a) t.j (uh t):=by
 obtain⟨c,f,e,d⟩:=h;obtain⟨b,a,rfl⟩:=zq d;exact⟨c,b,a,e,d⟩
def DL(B:Nat)(w:U)(tb:Nat)(t:Ψ)(n:Λ)(h:TP B w tb t)(y:t.j<=1000):
  c_ e_ 126 #[.u (Z (ω tb 1)),.g n] w λe o=>e=ε (ι (zM t n))/\o=w:=by
 obtain⟨u,s,q,l,d⟩:=h.view;obtain⟨z,v⟩:=l.H;clear h;go_enter func126,ntmps126;go_wp2;go_loop [5] (λi=>∃k:Nat,k<=t.j/\i=ι k/\X (∀j (a:j<t.j),j<k->UU t[j].name n=true)) (λi=>t.j-(d_ i).D);exact⟨0,zs _,rfl,λj a h=>η⟩;obtain⟨k,r,rfl,H⟩:=hrel;by_cases c:k<t.j
 .obtain⟨g,rfl,A,_,p,_,_⟩:=j9 d k c;cases f:UU t[k].name n
  .have b:=U2 (Av t n k H.l c f);unfold UU at f;generalize t[k].name=x at *;clear H;go_wp2;go_ret;exact⟨by rw[b.l];rfl,rfl⟩
  have b:X (∀j (a:j<t.j),j<k+1->UU t[j].name n=true):=λj a h=>by
   rcases dE j k with m|m;exact H.l j a m;obtain rfl:j=k:=η;exact f
  unfold UU at f;generalize t[k].name=x at *;clear H;go_wp2;go_round;exact⟨k+1,η,ξ,b⟩;simp[d_];omega
 have b:X (zM t n=k):=by
  have:=AG t n (λj a=>H.l j a η);unfold X;omega
 clear H;go_wp2;go_ret;exact⟨by rw[b.l];rfl,rfl⟩
def Mp(B:Nat)(w:U)(tb:Nat)(t:Ψ)(n:Λ)(h:TP B w tb t)(o:t.j<=1000)(j:zO t n=Y):
  c_ e_ 77 #[.u (Z (ω tb 1)),.g n] w λe f=>e=ε (.B #[ι 0,.i false])/\f=w:=by
 have c:=DL B w tb t n h o;obtain⟨s,r,q,i,d⟩:=h.view;obtain⟨v,u⟩:=i.H;have a:=U2 c;have m:=tG t n;clear h c;rcases tX j with l|⟨l,b⟩
 .clear j;generalize zM t n=k at *;go_enter func77,ntmps77;go_wp2_with (go_at_call 126;refine a.l.y ?_;rintro e f ⟨rfl,rfl⟩;clear a)
  go_ret2
  exact⟨rfl,rfl⟩
 obtain⟨g,rfl,z,_,p,_,_⟩:=j9 d _ l;have y:=vn b;clear j b;generalize t[zM t n].name=x at *;generalize zM t n=k at *;go_enter func77,ntmps77;go_wp2_with (go_at_call 126;refine a.l.y ?_;rintro e f ⟨rfl,rfl⟩;clear a)
 go_ret2
 exact⟨rfl,rfl⟩
def Tk(B:Nat)(w:U)(tb:Nat)(t:Ψ)(n:Λ)(o:zf)(h:TP B w tb t)(s:t.j<=1000)(p:zO t n=Z o):
  c_ e_ 77 #[.u (Z (ω tb 1)),.g n] w λe m=>e=ε (.B #[ι (zM t n),.i true])/\m=w:=by
 have d:=DL B w tb t n h s;obtain⟨A,z,u,i,c⟩:=h.view;obtain⟨y,v⟩:=i.H;have a:=U2 d;have r:=tG t n;clear h d;obtain⟨q,b,f⟩:=qr p;obtain⟨g,rfl,D,_,l,_,j⟩:=j9 c _ q;rw[b] at l j;have C:=qH f;clear p f b;generalize o.name=x at *;generalize zM t n=k at *;go_enter func77,ntmps77;go_wp2_with (go_at_call 126;refine a.l.y ?_;rintro e m ⟨rfl,rfl⟩;clear a)
 go_ret2
 exact⟨rfl,rfl⟩
def LS(B:Nat)(w:U)(tb:Nat)(t:Ψ)(n:Λ)(h:TP B w tb t)(c:t.j<=1000)(a:zO t n=Y):
  c_ e_ 159 #[.u (Z (ω tb 1)),.g n] w λe d=>e=ε (.B #[ι 0,.i false])/\d=w:=by
 have b:=U2 (Mp B w tb t n h c a);clear h a c;go_enter func159,ntmps159;go_wp2_with (go_at_call 77;refine b.l.y ?_;rintro e d ⟨rfl,rfl⟩;clear b)
 go_ret2
 exact⟨rfl,rfl⟩
def JY(B:Nat)(w:U)(tb:Nat)(t:Ψ)(n:Λ)(c:zf)(h:TP B w tb t)(q:t.j<=1000)(l:zO t n=Z c):
  c_ e_ 159 #[.u (Z (ω tb 1)),.g n] w λe o=>e=ε (.B #[ι c.L,.i true])/\o=w:=by
 have m:=U2 (Tk B w tb t n c h q l);obtain⟨u,s,r,i,b⟩:=h.view;obtain⟨x,v⟩:=i.H;obtain⟨p,a,f⟩:=qr l;obtain⟨g,rfl,y,_,j,_,d⟩:=j9 b _ p;rw[a] at d;clear l f a h j;generalize zM t n=k at *;go_enter func159,ntmps159;go_wp2_with (go_at_call 77;refine m.l.y ?_;rintro e o ⟨rfl,rfl⟩;clear m)
 go_ret2
 exact⟨rfl,rfl⟩
def Dm(w:U)(n:Nat)(T:f_)(z:O)(b:n<=maxLen):(w.C (.E (madeCells #[z] n) T)).r w.o.q T 1 (.k (Z (δ w.o.q)) n n) n (m_ n z):=by
 refine⟨ζ,zg ⟨w.o.q,n,madeCells #[z] n,rfl,ze _,?_,ze _,b,by rw[size_madeCells];omega,?_⟩⟩;show(w.o.push _)[w.o.q]?=_;simp;apply ni;intro i;by_cases a:i<n;simp[a,madeCells,Nat.mod_one];simp[List.getElem?_take,a]
def dT{α:Type}(f:α->O)(l:List α)(z:O)(k:Nat):List Value:=(l.G k).map f++m_ (l.j-k) z
def Ff{α:Type}(f:α->O)(l:List α)(z:O)(k:Nat)(a:k<l.j):(dT f l z k).set k (f l[k])=dT f l z (k+1):=by
 unfold dT;have b:((l.G k).map f).j=k:=by simp;omega
 rw[gz _ _ η,b,vF,yF a,uY,jt];congr 1;rw[show l.j-k=(l.j-(k+1))+1 by omega,p8];rfl
def iM{α:Type}(f:α->O)(l:List α)(z:O)(k:Nat)(a:k<=l.j):(dT f l z k).j=l.j:=by unfold dT;simp;omega
def Cw{α:Type}(f:α->O)(l:List α)(z:O):dT f l z 0=m_ l.j z:=by simp[dT]
def D3{α:Type}(f:α->O)(l:List α)(z:O)(k:Nat)(a:¬k<l.j):dT f l z k=l.map f:=by
 unfold dT;rw[yO η,show l.j-k=0 by omega];simp
def F5(w:U)(v:O)(l:List Λ)(hs:U7 lo w v l)(I:l.j<=1000):
  c_ e_ 170 #[v] w λe t=>∃g,w.o.q<=g/\e=ε (.k (Z (δ g)) l.j l.j)/\U7 w.o.q t (.k (Z (δ g)) l.j l.j) l/\μ w t:=by
 obtain⟨H,B,rfl⟩:=hs.qm;have q:=run_make_row' (P:=e_) 30 9 (.g g_) 16 underlying30 Uw rfl .i64 .i64 l.j η η;go_enter func170,ntmps170;go_wp2;clear q;have f:=Dm w l.j 9 (.g g_) b_;rw[←Cw j_] at f;go_loopw [11] (λi wr=>∃k:Nat,k<=l.j/\i=ι k/\μ w wr/\wr.r w.o.q 9 1 (.k (Z (δ w.o.q)) l.j l.j) l.j (dT j_ l (.g g_) k)) (λi _=>l.j-(d_ i).D);exact⟨0,zs _,rfl,γ,f⟩;clear f;obtain⟨k,r,rfl,h,a⟩:=hrel;have y:=h.q;by_cases c:k<l.j
 .obtain⟨g,rfl,A,o⟩:=hs.cell k c;have C:=(h.cell (p:=(ω g k)) A).A o;have D:g<wr.o.q:=η;have b:=um a k (by rw[iM _ _ _ _ r];exact c) (.g l[k]);rw[Ff j_ l _ k c] at b;have j:X ((wr.x (ω w.o.q k) (.g l[k])).r w.o.q 9 1 (.k (Z (δ w.o.q)) l.j l.j) l.j (dT j_ l (.g g_) (k+1))):=b;have E:=uv a;obtain⟨G,s,n,_,F,d⟩:=yt a η;simp at n;obtain⟨rfl,_⟩:=n;have m:∃u,wr.p (ω w.o.q k)=Z u:=⟨_,d k _ (yn (by rw[iM _ _ _ _ r];exact c))⟩;obtain⟨u0,z⟩:=m;clear o b d;generalize l[k]=x at *;go_wp2;go_roundw;exact⟨k+1,η,ξ,γ,j⟩;simp[d_];omega
 rw[D3 _ _ _ _ c] at a;go_wp2;go_ret;exact⟨_,ze _,rfl,a,h⟩
def Lp(B:Nat)(w:U)(tb:Nat)(t:Ψ)(h:TP B w tb t)(hl:t.j<=1000):
  c_ e_ 132 #[.u (Z (ω tb 1))] w λe D=>∃g,w.o.q<=g/\e=ε (.k (Z (δ g)) t.j t.j)/\U7 w.o.q D (.k (Z (δ g)) t.j t.j) (t.map zf.name)/\μ w D:=by
 obtain⟨W,V,N,q,l⟩:=h.view;obtain⟨I,H⟩:=q.H;have K:=q.lt;have y:=run_make_row' (P:=e_) 30 9 (.g g_) 16 underlying30 Uw rfl .i64 .i64 t.j η η;go_enter func132,ntmps132;go_wp2;clear y;have j:=Dm w t.j 9 (.g g_) b_;rw[←Cw (λe:zf=>j_ e.name)] at j;go_loopw [17] (λi wr=>∃k:Nat,k<=t.j/\i=ι k/\μ w wr/\wr.r w.o.q 9 1 (.k (Z (δ w.o.q)) t.j t.j) t.j (dT (λe:zf=>j_ e.name) t (.g g_) k)) (λi _=>t.j-(d_ i).D);exact⟨0,zs _,rfl,γ,j⟩;clear j I H;obtain⟨k,A,rfl,d,a⟩:=hrel;have E:=d.q;by_cases c:k<t.j
 .obtain⟨g,rfl,z,_,s,v,r⟩:=j9 l k c;have L:=(d.cell (p:=(ω g (k*3))) z).A s;have J:=(d.cell (p:=(ω g (k*3+1))) z).A v;have M:=(d.cell (p:=(ω g (k*3+2))) z).A r;have Q:g<wr.o.q:=η;have b:=um a k (by rw[iM _ _ _ _ A];exact c) (.g t[k].name);rw[Ff (λe:zf=>j_ e.name) t _ k c] at b;have m:X ((wr.x (ω w.o.q k) (.g t[k].name)).r w.o.q 9 1 (.k (Z (δ w.o.q)) t.j t.j) t.j (dT (λe:zf=>j_ e.name) t (.g g_) (k+1))):=b;have R:=uv a;obtain⟨T,C,o,_,S,f⟩:=yt a η;simp at o;obtain⟨rfl,_⟩:=o;have n:∃u,wr.p (ω w.o.q k)=Z u:=⟨_,f k _ (yn (by rw[iM _ _ _ _ A];exact c))⟩;obtain⟨u0,F⟩:=n;clear s v r b f;generalize t[k]=x at *;go_wp2;go_roundw;exact⟨k+1,η,ξ,γ,zy m.l ((zn _ _).C (ze _) _)⟩;simp[d_];omega
 rw[D3 _ _ _ _ c] at a;have G:U7 w.o.q wr (.k (Z (δ w.o.q)) t.j t.j) (t.map zf.name):=by simpa [U7,Function.comp_def] using a
 go_wp2;go_ret;exact⟨_,ze _,rfl,G,d⟩
def PI(w:U)(vb:Nat)(h:O)(vs:List Λ)(a:U3 w vb #[h] 246)(hs:U7 lo w h vs)(k:vs.j<=1000):
  c_ e_ 197 #[(π vb)] w λe b=>∃g,w.o.q<=g/\e=ε (.k (Z (δ g)) vs.j vs.j)/\U7 w.o.q b (.k (Z (δ g)) vs.j vs.j) vs/\μ w b:=by
 obtain⟨o,n⟩:=a.H;obtain⟨i,f,rfl⟩:=hs.qm;have j:X (c_ e_ 170 #[.k i vs.j f] w λe b=>∃g,w.o.q<=g/\e=ε (.k (Z (δ g)) vs.j vs.j)/\U7 w.o.q b (.k (Z (δ g)) vs.j vs.j) vs/\μ w b):=F5 w _ vs hs k;go_enter func197,ntmps197;go_wp2_with (go_at_call 170;refine j.l.y ?_;rintro e m ⟨g,l,rfl,d,c⟩)
 go_ret;exact⟨g,l,rfl,d,c⟩
def uE(lo:Nat)(w:U)(pb:Nat)(cs:List zd)(t:List zf):Prop:=lo<=pb/\∃v a,U3 w pb #[v,a] 131/\Vh lo 171 w v cs/\w.r lo 221 3 a t.j (uh t)
def uE.table{w:U}{pb:Nat}{cs:Ξ}{t:Ψ}(h:uE lo w pb cs t):TP lo w pb t:=by
 obtain⟨_,v,c,a,_,b⟩:=h;exact⟨v,c,a,b⟩
def uE.u{w w':U}{pb:Nat}{cs:Ξ}{t:Ψ}(h:uE lo w pb cs t)(a:μ w w'):uE lo w' pb cs t:=by
 obtain⟨d,v,b,c,f,e⟩:=h;exact⟨d,v,b,c.u a,f.u a,zy e a⟩
def J1(w:U)(pb:Nat)(cs:Ξ)(t:Ψ)(h:uE lo w pb cs t)(i:t.j<=1000):
  c_ e_ 86 #[(π pb)] w λe c=>∃g,w.o.q<=g/\e=ε (.k (Z (δ g)) t.j t.j)/\U7 w.o.q c (.k (Z (δ g)) t.j t.j) (t.map zf.name)/\μ w c:=by
 have j:=Lp lo w pb t h.table i;have f:pb<w.o.q:=by obtain⟨_,v,m,d,_⟩:=h;exact d.lt
 go_enter func86,ntmps86;go_wp2_with (go_at_call 132;refine j.y ?_;rintro e l ⟨g,k,rfl,b,a⟩)
 go_ret;exact⟨g,k,rfl,b,a⟩
def QL(w:U)(pb:Nat)(cs:Ξ)(t:Ψ)(n:Λ)(h:uE lo w pb cs t)(f:t.j<=1000)(i:zO t n=Y):
  c_ e_ 136 #[(π pb),.g n] w λe b=>e=ε (.B #[ι 0,ι 11])/\b=w:=by
 have g:=LS lo w pb t n h.table f i;have d:pb<w.o.q:=by obtain⟨_,v,j,c,_⟩:=h;exact c.lt
 go_enter func136,ntmps136;go_wp2_with (go_at_call 159;refine g.y ?_;rintro e b ⟨rfl,a⟩;obtain rfl:=a.z)
 go_ret2
 exact⟨rfl,rfl⟩
def Rg(w:U)(pb:Nat)(cs:Ξ)(t:Ψ)(n:Λ)(a:zf)(h:uE lo w pb cs t)(g:t.j<=1000)(j:zO t n=Z a):
  c_ e_ 136 #[(π pb),.g n] w λe c=>e=ε (.B #[ι a.L,ι 0])/\c=w:=by
 have i:=JY lo w pb t n a h.table g j;have f:pb<w.o.q:=by obtain⟨_,v,k,d,_⟩:=h;exact d.lt
 go_enter func136,ntmps136;go_wp2_with (go_at_call 159;refine i.y ?_;rintro e c ⟨rfl,b⟩;obtain rfl:=b.z)
 go_ret2
 exact⟨rfl,rfl⟩
def Q4(w:U)(pb:Nat)(cs:Ξ)(t:Ψ)(h:uE lo w pb cs t):
  c_ e_ 48 #[(π pb)] w λe f=>e=ε (ι cs.j)/\f=w:=by
 obtain⟨_,v,i,a,d,_⟩:=h;obtain⟨g,c,rfl⟩:=d.qm;obtain⟨k,j,b⟩:=a.I;go_enter func48,ntmps48;go_wp2;go_ret;exact⟨rfl,rfl⟩
def IV(w:U)(pb:Nat)(cs:Ξ)(t:Ψ)(i:Int)(h:uE lo w pb cs t)(n:cs.j<=1000)(a:i<0∨(cs.j:Int)<=i):
  c_ e_ 172 #[(π pb),ι i] w λe j=>e=ε (.B #[ν,ι 11])/\μ w j:=by
 obtain⟨_,v,l,c,g,_⟩:=h;obtain⟨k,f,rfl⟩:=g.qm;obtain⟨o,m,d⟩:=c.I;rcases a with a|a
 .go_enter func172,ntmps172;go_wp2;go_ret2
  exact⟨rfl,γ⟩
 have b:¬i<0:=η;go_enter func172,ntmps172;go_wp2;go_ret2
 exact⟨rfl,γ⟩
def T4(w:U)(pb:Nat)(cs:Ξ)(t:Ψ)(k:Nat)(h:uE lo w pb cs t)(H:cs.j<=1000)(A:k<cs.j)(j:vV cs[k]):
  c_ e_ 172 #[(π pb),ι k] w λe x=>∃g,w.o.q<=g/\e=ε (.B #[.k (Z (δ g)) (zu cs[k]).j (zu cs[k]).j,ι 0])/\U7 w.o.q x (.k (Z (δ g)) (zu cs[k]).j (zu cs[k]).j) (zu cs[k])/\μ w x:=by
 obtain⟨_,v,P,B,y,_⟩:=h;obtain⟨T,K,rfl⟩:=y.qm;obtain⟨R,Q,D⟩:=B.I;obtain⟨g,M,u,N,s,rfl,V,J,L,I,G,d,o⟩:=y.cell k A;obtain⟨m,n⟩:=j;have p:(zu cs[k]).j<=1000:=by have:=sK cs[k].d [];unfold zu;simp at this;omega
 generalize cs[k]=c at *;have E:=U2 λW z=>iX W c _ _ (d.u z) (o.u z) m n;go_enter func172,ntmps172;go_wp2_with (first|(go_at_call 148;refine(E.l _ γ).y ?_;rintro e S ⟨nv,rfl,a,b⟩;obtain⟨F,r,rfl⟩:=zq a)|(go_at_call 197;refine(PI _ _ _ (zu c) (by exact U3.new _ _ _) (by exact zy a γ) p).y ?_;rintro e w2 ⟨C,q,rfl,f,i⟩))
 have l:=b.q;rw[q_] at q;go_ret2
 exact⟨C,η,rfl,f.low (by rw[q_];omega),U6 (b.C l _) i⟩
def kP(cs:List zd):ByteArray:=cs.H (λs c=>s++(W9 c++pP)) g_
def Ds{cs:Ξ}{k:Nat}(a:k<cs.j):kP (cs.G (k+1))=kP (cs.G k)++(W9 cs[k]++pP):=by
 unfold kP;rw[yF a,j4];rfl
def CN(M:Nat):∀(l:List Λ),(∀t∈l,t.q<=M)->(yD l).q<=(M+2)*l.j
 |[],_=>by simp[yD]
 |[t],h=>by have:=h t ζ;simp[yD];omega
 |t::u::r,h=>by
  have c:=h t ζ;have a:=CN M (u::r) λx b=>h x (pf _ b);show(t++ul++yD (u::r)).q<=_;rw[h_,h_,show ul.q=2 from rfl];simp only[xp] at a ⊢;rw[Nat.mul_add,Nat.mul_one];omega
def PZ{c:zd}(h:mJ c):(W9 c).q<=10000000:=by
 obtain⟨b,i⟩:=h;have a:∀l∈zj c,(xb l).q<=8009:=λl a=>by have:=wD (b l a);have:=(b l a).2.2.1;omega
 have f:=a c.g (by simp[zj]);have g:(Vi c.d).q<=4+8011*c.d.j:=by
  unfold Vi;split;simp;rw[h_,show fH.q=4 from rfl];have:=CN 8009 (c.d.map xb) λt d=>by
   obtain⟨l,e,rfl⟩:=z9.1 d;exact a l (by simp[zj,e])
  rw[xv] at this;omega
 unfold W9;rw[h_,h_,show rZ.q=1 from rfl];omega
def KX(w:U)(pb:Nat)(cs:Ξ)(t:Ψ)(h:uE lo w pb cs t)(hl:cs.j<=1000)(E:∀c∈cs,mJ c):
  c_ e_ 47 #[(π pb)] w λe w'=>e=ε (.g (kP cs))/\μ w w':=by
 obtain⟨_,v,pv,L,J,_⟩:=h;obtain⟨ao,aa,rfl⟩:=J.qm;obtain⟨M,C,R⟩:=L.I;have P:=U2 E;clear E;go_enter func47,ntmps47;go_wp2;go_loopw [3,11] (λv3 D wr=>∃(k:Nat) (s:Λ),k<=cs.j/\D=ι k/\v3=.g s/\s.q<=10000001*k/\X (s=kP (cs.G k))/\μ w wr) (λ_ i _=>cs.j-(d_ i).D);exact⟨0,_,zs _,rfl,rfl,ze _,rfl,zn _ _⟩;clear M C;obtain⟨k,s,hk,rfl,rfl,ac,H,a⟩:=hrel;have o:=a.q;by_cases j:k<cs.j
 .obtain⟨g,ad,G,ae,F,rfl,u,q,r,p,n,l,m⟩:=J.cell k j;have N:=zi a u q;have V:=zi a u r;have Q:=zi a u p;have ab:=zi a u n;have T:g<wr.o.q:=η;have I:=Ds j;have f:=P.l _ (zr j);have d:=l.u a;have b:=m.u a;clear q r p n l m;generalize cs[k]=c at *;have S:=PZ f;have HL:=U2 λW K=>TD W c _ _ (d.u K) (b.u K) f;clear d b f;generalize W9 c=x at *;have B:pP.q=1:=rfl;have hq:(x++pP).q=x.q+1:=by rw[h_,B]
  have z:X (s++(x++pP)=kP (cs.G (k+1))):=by rw[X,I,H.l]
  clear I H;go_wp2_with (go_at_call 85;refine(HL.l _ γ).y ?_;rintro e w2 ⟨rfl,y⟩;have A:=U6 (a.C o _) y)
  go_roundw;exact⟨k+1,s++(x++pP),η,ξ,rfl,(by rw[h_];omega),z,A⟩;simp[d_];omega
 have z:X (s=kP cs):=by rw[X,H.l,yO η]
 clear H;go_wp2;go_ret;exact⟨by rw[←z.l];rfl,a⟩
end
structure qO where
 K:List Nat
 down:List Nat
 deriving DecidableEq
structure zm where
 r:Nat
 ql:Nat
 B:List qO
 count:Nat
 deriving DecidableEq
abbrev zl:=List Nat
def qO.zero:qO:=⟨[],[]⟩
def yI(T:zm):zm:={T with B:=T.B++[⟨m_ T.r T.r,m_ T.r 0⟩]}
def zU(a:Nat):Nat:=if a<1 then 1 else a
def xz(a:Nat):Nat:=if (if a<1 then 1 else a)>3 then 3 else(if a<1 then 1 else a)
def xk(b a:Nat):zm:=yI ⟨zU b,xz a,[],0⟩
def yJ(T:zm)(at' «from» : Nat):Option Nat:=
 if at'<T.B.j/\«from»<T.r then
  let v:=(T.B.d at' qO.zero).K.d «from» 0
  if v≥T.r then Y else Z v
 else Y
def zK(T:zm)(at' v:Nat):Option Nat:=
 match yJ T at' v with
 |none=>Y
 |some u=>if u=v then Z ((T.B.d at' qO.zero).down.d v 0) else Y
def kG(v:Nat):Nat->List Nat->List Nat
 |0,l=>l
 |n+1,l=>if l.d n 0>v then kG v n (l.set n v) else l
def lP(n:qO)(v d:Nat):qO:=⟨kG v (v+1) n.K,n.down.set v d⟩
def yu(T:zm)(at' v d:Nat):zm:=
 if at'<T.B.j/\v<T.r then{T with B:=T.B.set at' (lP (T.B.d at' qO.zero) v d)} else T
def qN(T:zm)(at' v:Nat):zm×Nat:=
 match zK T at' v with
 |some b=>(T,b)
 |none=>(yu (yI T) at' v T.B.j,T.B.j)
def dQ(T:zm)(at' v a:Nat):zm×Bool:=
 match zK T at' v with
 |some _=>(T,false)
 |none=>({yu T at' v a with count:=(yu T at' v a).count+1},true)
def mm(T:zm)(row:zl):Bool:=row.all (λv=>v<T.r)
def vH(a:Nat):zm->Nat->Nat->zl->zm×Bool
 |T,_,_,[]=>(T,false)
 |T,at',level,v::r=>
  if level+1≥T.ql then dQ T at' v a else vH a (qN T at' v).1 (qN T at' v).2 (level+1) r
def yE(T:zm)(row:zl)(a:Nat):zm×Bool:=if mm T row then vH a T 0 0 row else(T,false)
def vf(T:zm):Nat->Nat->zl->Option Nat
 |_,_,[]=>Y
 |at',level,v::r=>
  match zK T at' v with
  |none=>Y
  |some b=>if level+1≥T.ql then Z b else vf T b (level+1) r
def ud(T:zm)(row:zl):Option Nat:=vf T 0 0 row
def ue(T:zm):Nat->Nat->Nat->Nat->zl->List zl->Option (zl×List zl)
 |0,_,_,_,_,_=>Y
 |n+1,at',level,«from»,row,a=>
  match yJ T at' «from» with
  |none=>Z (row,a)
  |some v=>
   let row:=row.set level v
   if level+1≥T.ql then ue T n at' level (v+1) row (a++[row])
   else if level+1≥3 then ue T n at' level (v+1) row a
   else match ue T n ((zK T at' v).d 0) (level+1) 0 row a with
    |none=>Y
    |some (row,a)=>ue T n at' level (v+1) row a
def mI(a:Nat)(T:zm):Option (List zl):=(ue T a 0 0 0 [0,0,0] []).w (·.2)
structure yo where
 var:Bool
 D:Nat
 w:Nat
 deriving DecidableEq
structure zx where
 o:Nat
 v:List yo
 deriving DecidableEq
structure zv where
 L:Nat
 m:Nat
 g:zx
 qc:List zx
 qx:List zx
 deriving DecidableEq
def zL(l:zx)(place:Nat):Bool:=l.v.any λt=>t.var&&t.D == place
def xd(l:zx)(place:Nat):Option Nat:=if zL l place then Z ((w_ place).countP (zL l)) else Y
def xi(l:zx):Nat:=(w_ 5).countP (zL l)
def vo(l:zx):Nat:=l.v.H (λk t=>if t.var&&decide (t.D≥k) then t.D+1 else k) 0
def kH(l:zx)(je:Int):Int:=l.v.H (λk t=>if t.var&&decide ((t.D:Int)<je)&&decide ((t.D:Int)>k) then(t.D:Int) else k) (-1)
def jw(l:zx)(je:Int):Int:=if (vo l:Int)<=je then -1 else kH l je
def qC(je b:Int)(l:zx):Int:=if jw l je>b then jw l je else b
def xQ(r:zv)(je:Int):Int:=r.qx.H (qC je) (r.qc.H (qC je) (kH r.g je))
def VQ(t:yo)(vals:List Nat):Nat:=if t.var&&decide (t.D<5) then vals.d t.D 0 else t.D
def U5(l:zx)(vals:List Nat)(i:Nat):Nat:=if i<l.v.j then VQ (l.v.d i ⟨false,0,0⟩) vals else 0
def zI(l:zx)(vals:List Nat):zl:=[U5 l vals 0,U5 l vals 1,U5 l vals 2]
def leveled(t:yo):Bool:=t.var&&decide (t.w<3)
def j7(l:zx)(row f:zl)(i:Nat):zl:=
 if i<l.v.j/\leveled (l.v.d i ⟨false,0,0⟩)=true then f.set (l.v.d i ⟨false,0,0⟩).w (row.d i 0) else f
def uP(l:zx)(row:zl):zl:=j7 l row (j7 l row (j7 l row [0,0,0] 0) 1) 2
def kf(t:yo)(v:Nat)(f:zl):Bool:=if leveled t then f.d t.w 0 == v else t.D == v
def xI(l:zx)(row f:zl)(i:Nat):Bool:=decide (l.v.j<=i)||kf (l.v.d i ⟨false,0,0⟩) (row.d i 0) f
def ua(l:zx)(row:zl):Option zl:=
 if xI l row (uP l row) 0&&xI l row (uP l row) 1&&xI l row (uP l row) 2 then Z (uP l row) else Y
structure xa where
 rows:zm
 B:List Nat
 deriving DecidableEq
structure iG where
 lit:zx
 je:Nat
 rows:zm
 deriving DecidableEq
structure zF where
 g:zx
 m:Nat
 ja:List xa
 bars:List iG
 jf:List (List (Nat×Nat))
 ji:List Int
 last:Int
 P:List Nat
 «from» : List Nat
 ql:Int
 /-- as the code counts them: an int of Go's -/
 jg:Int
 deriving DecidableEq
def xa.zero:xa:=⟨⟨0,0,[],0⟩,[]⟩
def xx(r:zv)(place:Nat):List (Nat×Nat):=
 r.qc.zipIdx.filterMap λx=>(xd x.1 place).w λa=>(x.2,a)
def vx(J:zF)(je:Nat):Bool:=J.bars.any λb=>b.je == je&&(ud b.rows (zI b.lit J.P)).I
def xL(r:zv)(qc qx:List zm):zF:=
 let J:zF:={g:=r.g,m:=r.m,ja:=qc.w (λT=>⟨T,[0,0,0]⟩),bars:=(r.qx.zip qx).w (λx=>⟨x.1,vo x.1,x.2⟩),jf:=(w_ 5).w (xx r),ji:=(w_ 5).w (λp=>xQ r (p:Nat)),last:=xQ r r.m,P:=[0,0,0,0,0],«from»:=[0,0,0,0,0],ql:=if qc.any (λT=>T.count == 0) then -1 else 0,jg:=0}
 if vx J 0 then{J with ql:=-1} else J
def qk(J:zF)(h:Nat×Nat):Bool:=decide (h.1<J.ja.j)&&decide (h.2<3)
def qv(J:zF)(h:Nat×Nat)(«from» : Nat):zF×Option Nat:=
 if qk J h then({J with jg:=IntKind.i64.wrap (J.jg+1)},yJ (J.ja.d h.1 xa.zero).rows ((J.ja.d h.1 xa.zero).B.d h.2 0) «from») else(J,Y)
def gU:Nat->zF->List (Nat×Nat)->Nat->Nat->Nat->Option (zF×Option Nat)
 |0,_,_,_,_,_=>Y
 |n+1,J,c,at',b,a=>
  if b<c.j then
   match qv J (c.d a (0,0)) at' with
   |(J,Y)=>Z (J,Y)
   |(J,Z v)=>gU n J c (if v>at' then v else at') ((if v>at' then 0 else b)+1) (if a+1≥c.j then 0 else a+1)
  else Z (J,Z at')
def lc(a:Nat)(J:zF)(place «from» : Nat):Option (zF×Option Nat):=
 if place≥5∨(J.jf.d place []).j=0 then Z (J,Y) else gU a J (J.jf.d place []) «from» 0 0
def vR(v:Nat)(J:zF)(h:Nat×Nat):zF:=
 if qk J h=false∨h.2+1≥3 then J
 else{J with ja:=J.ja.set h.1 {(J.ja.d h.1 xa.zero) with B:=(J.ja.d h.1 xa.zero).B.set (h.2+1) ((zK (J.ja.d h.1 xa.zero).rows ((J.ja.d h.1 xa.zero).B.d h.2 0) v).d 0)}}
def uG(J:zF)(place v:Nat):zF:=
 if place≥5 then J
 else(J.jf.d place []).H (vR v) {J with P:=J.P.set place v,«from»:=(if place+1<5 then(J.from.set place (v+1)).set (place+1) 0 else J.from.set place (v+1))}
def jR:Nat->zF->Int->Option (zF×Bool)
 |0,_,_=>Y
 |n+1,J,a=>
  if 0<=a/\a<J.m/\a<5 then
   match lc n J a.D (J.from.d a.D 0) with
   |none=>Y
   |some (J,Y)=>jR n J (J.ji.d a.D 0)
   |some (J,Z v)=>jR n (uG J a.D v) (if vx (uG J a.D v) (a.D+1) then a else a+1)
  else Z (J,decide (a≥J.m))
def hX(b:Nat)(J:zF):Option (zF×Bool):=
 match jR b J J.ql with
 |none=>Y
 |some (J,a)=>Z ({J with ql:=if a then J.last else -1},a)
structure yQ where
 lit:zx
 before:zm
 qw:zm
 all:zm
 deriving DecidableEq
structure yi where
 p:zv
 J:List yQ
 deriving DecidableEq
structure jM where
 o:Nat
 row:zl
 deriving DecidableEq
structure j8 where
 r:Nat
 N:List Nat
 facts:List jM
 H:List zv
 deriving DecidableEq
structure zw where
 rows:List zm
 count:Nat
 Q:Nat
 jg:Int
 qw:List (List zl)
 deriving DecidableEq
def zm.zero:zm:=⟨0,0,[],0⟩
def qZ(R:zw):zw:={R with qw:=m_ R.rows.j []}
def okT(T:zm):Bool:=decide (T.B.j<=90000000)&&decide (T.count<1000000000)
def xZ:List zl->zm->Option zm
 |[],T=>Z T
 |r::a,T=>if okT T then xZ a (yE T r 0).1 else Y
def rowsG(a:Nat)(T:zm):Option (List zl):=
 match mI a T with
 |none=>Y
 |some b=>if b.j<=1048576 then Z b else Y
def kq(b:Nat)(R:zw)(a:Nat)(row:zl):Option (zw×Bool):=
 if a<R.rows.j/\a<R.qw.j/\okT (R.rows.d a zm.zero)=true/\R.count<=1048576/\(R.qw.d a []).j<=1048576 then
  match yE (R.rows.d a zm.zero) row R.Q with
  |(T,false)=>Z ({R with rows:=R.rows.set a T},true)
  |(T,true)=>Z ({R with rows:=R.rows.set a T,qw:=R.qw.set a (R.qw.d a []++[row]),count:=R.count+1},decide (R.count+1<=b))
 else Y
def m7(b:Nat)(R:zw)(a:Nat):zm:=if a≥R.rows.j then xk b 0 else R.rows.d a zm.zero
def fB(d g:Nat)(V:yQ)(c:List zl):Option yQ:=
 match rowsG d V.qw with
 |none=>Y
 |some e=>
  match xZ e V.before,xZ (c.filterMap (ua V.lit)) (xk g (xi V.lit)),xZ (c.filterMap (ua V.lit)) V.all with
  |some b,Z f,Z a=>Z {V with before:=b,qw:=f,all:=a}
  |_,_,_=>Y
def gD(a:Nat)(l:zx):yQ:=⟨l,xk a (xi l),xk a (xi l),xk a (xi l)⟩
def fC(a c:Nat)(R:zw):List zx->Option (List yQ)
 |[]=>Z []
 |l::r=>
  match rowsG a (m7 c R l.o) with
  |none=>Y
  |some b=>match fB a c (gD c l) b,fC a c R r with
   |some v,Z vs=>Z (v::vs)
   |_,_=>Y
def UZ(a b:Nat)(R:zw)(c:Nat):List zv->Option (List yi)
 |[]=>Z []
 |r::d=>
  if r.L=c then
   match fC a b R r.qc,UZ a b R c d with
   |some vs,Z e=>Z (⟨r,vs⟩::e)
   |_,_=>Y
  else UZ a b R c d
def qa(a b:Nat):Nat->zw->zF->Option (zw×Bool)
 |0,_,_=>Y
 |n+1,R,J=>
  match hX n J with
  |none=>Y
  |some (J,false)=>Z ({R with jg:=IntKind.i64.wrap (R.jg+J.jg)},true)
  |some (J,true)=>match kq a R b (zI J.g J.P) with
   |none=>Y
   |some (R,false)=>Z (R,false)
   |some (R,true)=>qa a b n R J
def jS(a:Nat)(R:zw)(r:zv):List zm:=r.qx.w λl=>m7 a R l.o
def UR(vs:List yQ)(place:Nat):List zm:=vs.zipIdx.w λx=>if x.2<place then x.1.before else if x.2=place then x.1.qw else x.1.all
def kw(b c a:Nat)(W:yi):Nat->Nat->zw->Option (zw×Bool)
 |0,_,R=>Z (R,true)
 |n+1,i,R=>
  if (W.J.d i ⟨⟨0,[]⟩,zm.zero,zm.zero,zm.zero⟩).qw.count>0 then
   match qa a W.p.g.o b R (xL W.p (UR W.J i) (jS c R W.p)) with
   |none=>Y
   |some (R,false)=>Z (R,false)
   |some (R,true)=>kw b c a W n (i+1) R
  else kw b c a W n (i+1) R
def gS(b c a:Nat)(first:Bool)(R:zw)(W:yi):Option (zw×Bool):=
 if first then qa a W.p.g.o b R (xL W.p (W.J.w (·.all)) (jS c R W.p))
 else kw b c a W W.J.j 0 R
def gP(b c a:Nat)(first:Bool):List yi->zw->Option (zw×Bool)
 |[],R=>Z (R,true)
 |W::d,R=>
  match gS b c a first R W with
  |none=>Y
  |some (R,false)=>Z (R,false)
  |some (R,true)=>gP b c a first d R
def fP(a c:Nat)(b:List (List zl)):List yQ->Option (List yQ)
 |[]=>Z []
 |V::vs=>
  match (if V.lit.o<b.j then fB a c V (b.d V.lit.o []) else Z V),fP a c b vs with
  |some v,Z vs=>Z (v::vs)
  |_,_=>Y
def dO(a d:Nat)(c:List (List zl)):List yi->Option (List yi)
 |[]=>Z []
 |W::b=>
  match fP a d c W.J,dO a d c b with
  |some v,Z b=>Z ({W with J:=v}::b)
  |_,_=>Y
def rm(b d a:Nat)(first:Bool)(c:List yi)(R:zw):Option (zw×List yi×Bool):=
 match gP b d a first c (qZ {R with Q:=R.Q+1}) with
 |none=>Y
 |some (R,false)=>Z (R,c,false)
 |some (R,true)=>(dO b d R.qw c).w λc=>(R,c,true)
def gR(e b a:Nat):Nat->Bool->List yi->zw->Option (zw×Bool)
 |0,_,_,_=>Y
 |n+1,first,d,R=>
  if R.Q≥a then Z (R,false)
  else match rm n e b first d R with
   |none=>Y
   |some (c,_,false)=>Z (c,false)
   |some (c,d,true)=>if c.count>R.count then gR e b a n false d c else Z (c,true)
def rz(c f b a:Nat)(d:List zv)(R:zw)(s:Nat):Option (zw×Bool):=
 match UZ c f R s d with
 |none=>Y
 |some e=>if e.j>0 then gR f b a c true e R else Z (R,true)
def gh(d e b a:Nat)(c:List zv):Nat->Nat->zw->Option (zw×Bool)
 |0,_,R=>Z (R,true)
 |n+1,s,R=>
  match rz d e b a c R s with
  |none=>Y
  |some (R,false)=>Z (R,false)
  |some (R,true)=>gh d e b a c n (s+1) R
def gN(a:Nat):List jM->zw->Option (zw×Bool)
 |[],R=>Z (R,true)
 |f::b,R=>
  match kq a R f.o f.row with
  |none=>Y
  |some (R,false)=>Z (R,false)
  |some (R,true)=>gN a b R
def hY(S:j8):zw:=qZ ⟨S.N.w (xk S.r),0,0,0,[]⟩
def nY(c:Nat)(S:j8)(a b:Nat):Option (Option zw):=
 match gN a S.facts (hY S) with
 |none=>Y
 |some (_,false)=>Z Y
 |some (R,true)=>(gh c S.r a b S.H S.N.j 0 R).w λx=>if x.2 then Z x.1 else Y
section
variable {d i:Nat}{listed:Array Bool}{w:U}
section
variable {P:Program} {ops:Array Oper} {Q:Exit->Act->U->Prop} {md:Region.Mode} {S:U->Prop}
def lZ(P:Program)(md:Region.Mode)(ops:Array Oper)(Q:Exit->Act->U->Prop)(S:U->Prop)(d:Nat):Nat->Array Bool->Act->U->Prop
 |0,listed,a,w=>Region.ready md ops listed=[]/\Q .normal a w
 |b+1,listed,a,w=>
  (Region.ready md ops listed=[]->Q .normal a w) ∧
  ∀i∈Region.ready md ops listed,wpOp P ops Q i (λe c=>(i≠d->S c)/\lZ P md ops Q S d b (listed.setIfInBounds i true) e c) a w
def GB{d:Nat}:∀(b:Nat) (listed:Array Bool) (a:Act) (w:U),lZ P md ops Q S d b listed a w->wpAny P md ops Q b listed a w
 |0,_,_,_,h=>h
 |b+1,_,_,_,h=>⟨h.1,λi g=>wpOp_mono (λe f c=>GB b _ e f c.2) (h.2 i g)⟩
def V0(md:Region.Mode)(ops:Array Oper)(d i:Nat):Bool:=match ops[d]? with
 |none=>false
 |some o=>o.after.v.any λe=>Region.binds md e&&e.on == i
def RQ(h:V0 md ops d i=true):∃o,ops[d]?=Z o/\∃e∈o.after,Region.binds md e=true/\e.on=i:=by
 unfold V0 at h;split at h;cases h;rename_i o b;obtain⟨e,c,a⟩:=fa.1 h;simp only[uK,beq_iff_eq] at a;exact⟨o,b,e,by simpa using c,a⟩
def Qk{x:Oper}{v:O}(T:ops[i]?=Z x)(p:∀(j:Nat) (o:Oper) B b,ops[j]?=Z o->o.op≠.select B b)
  (hQ:∀c a w,Q (.panic c) (a.put x.dst v) w->Q (.panic c) a w) (hd:V0 md ops d i=true):
  ∀(f:Nat) (listed:Array Bool) (a:Act) (w:U),
   (∀j u,ops[j]?=Z u->j≠i->listed.d j true=false->(∀e∈u.after,Region.binds md e=true->e.on≠i)->x.apart ops u=true) →
   i∈Region.ready md ops listed->YieldsIf P ops S x v a->S w →
   lZ P md ops Q S d f (listed.setIfInBounds i true) (a.put x.dst v) w->lZ P md ops Q S d (f+1) listed a w:=by
 intro f;induction f with
 |zero=>
  intro listed a w _ s F A H;refine⟨λh=>(by rw[h] at s;cases s),λj D=>?_⟩;by_cases g:j=i;subst g;exact F.wpOp T A ⟨λ_=>A,H⟩;have:=ready_mono D g;rw[H.1] at this;cases this
 |succ f ih=>
  intro listed a w l s F A H;refine⟨λh=>(by rw[h] at s;cases s),λj D=>?_⟩;by_cases g:j=i;subst g;exact F.wpOp T A ⟨λ_=>A,H⟩;have t:=H.2 j (ready_mono D g);obtain⟨r,u,n,y⟩:=mem_ready.1 D;have q:∀e∈u.after,Region.binds md e=true->e.on≠i:=λe L G J=>by
   have t:=y e L G;have V:=(mem_ready.1 s).1;rw[J] at t;rcases dE i listed.q with N|N;simp[N] at V t;rw[V] at t;cases t;simp[Array.getElem?_eq_none N] at t
  have K:j≠d:=λe=>by
   subst e;obtain⟨od,W,e,L,G,R⟩:=RQ hd;rw[n] at W;cases W;exact q e L G R
  have h2:=wpOp_putIf n (l j u n g r q) (λB b=>p i x B b T) (λB b=>p j u B b n) hQ F t;have m:∀k ok,ops[k]?=Z ok->k≠i->(listed.setIfInBounds j true).d k true=false →
    (∀e∈ok.after,Region.binds md e=true->e.on≠i)->x.apart ops ok=true:=λk ok hk M z I=>by
   refine l k ok hk M ?_ I;by_cases C:j=k
   .subst C;exact r
   .rw[getD_set_ne true C] at z;exact z
  refine wpOp_mono (λa' w' E=>⟨E.2.1,ih (listed.setIfInBounds j true) a' w' m (ready_mono s (I_ g)) E.1 (E.2.1 K) ?_⟩) h2;rw[Array.setIfInBounds_comm _ _ g];exact E.2.2
def uA{e:Oper}{v:O}{b:Nat}{a:Act}(f:ops[i]?=Z e)
  (hs:Region.noSelect ops=true) (n:Region.free md ops listed i=true) (m:(Region.ready md ops listed).contains i=true) (j:V0 md ops d i=true)
  (k:∀c a w,Q (.panic c) (a.put e.dst v) w->Q (.panic c) a w) (l:YieldsIf P ops S e v a) (g:S w)
  (h:lZ P md ops Q S d b (listed.setIfInBounds i true) (a.put e.dst v) w):lZ P md ops Q S d (b+1) listed a w:=
 Qk f (Region.noSelect_spec hs) k j b listed a w (Region.free_spec f n) (by simpa using m) l g h
def fI{o:Oper}{b:Nat}{a:Act}(f:Region.ready md ops listed=[i])(l:ops[i]?=Z o)
  (h:∀c:Act->U->Prop,Shut (∀a w,(i≠d->S w)->lZ P md ops Q S d b (listed.setIfInBounds i true) a w->c a w)->if Region.wanted o (yielded ops a.tmps)=true then Oper.wp P o a w c Q else c (a.put o.dst undef) w):lZ P md ops Q S d (b+1) listed a w:=by
 refine⟨λg=>(by rw[f] at g;cases g),λj e=>?_⟩;rw[f] at e;obtain rfl:j=i:=by simpa using e
 exact wpOp_step l (λc n=>h c (λa w k m=>n a w ⟨k,m⟩))
def Cd{a:Act}(c:Region.ready md ops listed=[])(h:Q .normal a w):∀b,lZ P md ops Q S d b listed a w
 |0=>⟨c,h⟩
 |_+1=>⟨λ_=>h,by rw[c];simp⟩
def A7{id:Nat}{a:Act}(b:P.follows .mixedOrders=true)(c:S w.drew)
  (h:S w.drew->lZ P .any ops Q S d ops.q (Array.replicate ops.q false) a w.drew):(Code.region id ops true).wp P Q a w:=
 wp_region_any b (GB _ _ _ _ (h c))
end
end
section
variable {v:ByteArray}{vs:κ}
def PB{t:Λ}:v∈km vs t↔v∈vs∨(v=t/\zV v=true):=by
 unfold km;cases a:zV t;exact⟨zh,λh=>h.elim id λx=>by have g:=x.2;rw[x.1,a] at g;cases g⟩;cases b:yr t vs;simp only[F_,Bool.and_true,if_true,zW,xo];exact⟨λh=>h.elim zh λe=>zg ⟨e,by rw[e];exact a⟩,λh=>h.elim zh λe=>zg e.1⟩;exact⟨zh,λh=>h.elim id fun⟨e,_⟩=>by subst e;exact qq.1 b⟩
def eU{v:Λ}:∀{args vs:List Λ},v∈xH vs args↔v∈vs∨(v∈args/\zV v=true)
 |[],vs=>by simp[xH]
 |t::r,vs=>by
  show v∈xH (km vs t) r↔_;rw[eU,PB,z7];constructor
  .rintro((h|⟨h,g⟩)|⟨h,g⟩)
   .exact zh h
   .exact zg ⟨zh h,g⟩
   .exact zg ⟨zg h,g⟩
  .rintro(h|⟨h|h,g⟩)
   .exact zh (zh h)
   .exact zh (zg ⟨h,g⟩)
   .exact zg ⟨h,g⟩
def Eo{v:Λ}:∀{ls:Ω} {vs:List Λ},v∈ls.H gO vs↔v∈vs∨(zV v=true/\∃l∈ls,v∈l.k)
 |[],vs=>ζ
 |l::r,vs=>by
  rw[uQ,Eo,gO,eU];simp only[z7,exists_eq_or_imp];constructor
  .rintro((h|⟨h,g⟩)|⟨g,h⟩)
   .exact zh h
   .exact zg ⟨g,zh h⟩
   .exact zg ⟨g,zg h⟩
  .rintro(h|⟨g,h|h⟩)
   .exact zh (zh h)
   .exact zh (zg ⟨h,g⟩)
   .exact zg ⟨g,h⟩
def DN{v:Λ}:∀{ls:Ω} {vs:List Λ},v∈ls.H qz vs↔v∈vs∨(zV v=true/\∃l∈ls,l.i=false/\v∈l.k)
 |[],vs=>ζ
 |l::r,vs=>by
  rw[uQ,DN,qz];simp only[z7,exists_eq_or_imp];cases a:l.i with
  |true=>simp
  |false=>
   rw[za ζ,eU];constructor
   .rintro((h|⟨h,g⟩)|⟨g,h⟩)
    .exact zh h
    .exact zg ⟨g,zh ⟨rfl,h⟩⟩
    .exact zg ⟨g,zg h⟩
   .rintro(h|⟨g,⟨-,h⟩|h⟩)
    .exact zh (zh h)
    .exact zh (zg ⟨h,g⟩)
    .exact zg ⟨g,h⟩
def et{c:zd}:v∈ux c↔zV v=true/\(v∈c.g.k∨∃l∈c.d,v∈l.k):=by
 unfold ux;rw[Eo,eU];constructor;rintro((h|⟨h,g⟩)|⟨g,h⟩);exact zC h ζ;exact⟨g,zh h⟩;exact⟨g,zg h⟩;rintro⟨g,h|h⟩;exact zh (zg ⟨h,g⟩);exact zg ⟨g,h⟩
def fo{c:zd}:v∈zu c↔zV v=true/\∃l∈c.d,l.i=false/\v∈l.k:=by
 unfold zu;rw[DN];simp
def pg{args:List Λ}:qW vs args=true↔∀t∈args,zV t=true->t∈vs:=by
 unfold qW;rw[gu];constructor;intro h t a b;have:=h t a;rw[b,pA,pT] at this;exact qq.1 this;intro h t a;cases b:zV t;rfl;rw[pA,pT];exact qq.2 (h t a b)
end
section
variable {b:ByteArray}
def Eg:∀a:List UInt8,Op.bytesLess a a=false
 |[]=>rfl
 |x::a=>by simp[Op.bytesLess,Eg a]
def Gt:∀a b:List UInt8,Op.bytesLess a b=false->Op.bytesLess b a=false->a=b
 |[],[],_,_=>rfl
 |[],_::_,h,_=>by simp[Op.bytesLess] at h
 |_::_,[],_,h=>by simp[Op.bytesLess] at h
 |x::a,y::b,c,d=>by
  simp only[Op.bytesLess,pY,decide_eq_false_iff_not,ik,beq_eq_false_iff_ne] at c d;have e:x=y:=by
   have g:=c.1;have f:=d.1;rw[UInt8.not_lt] at g f;exact UInt8.le_antisymm f g
  subst e;rw[Gt a b (c.2.resolve_left λh=>h rfl) (d.2.resolve_left λh=>h rfl)]
def Cv:∀a b c:List UInt8,Op.bytesLess a b=true->Op.bytesLess b c=true->Op.bytesLess a c=true
 |_,[],_,h,_=>by cases ‹List UInt8›<;>simp[Op.bytesLess] at h
 |_,_::_,[],_,h=>by simp[Op.bytesLess] at h
 |[],_::_,_::_,_,_=>rfl
 |x::a,y::b,z::c,e,d=>by
  simp only[Op.bytesLess,ld,decide_eq_true_eq,uK,beq_iff_eq] at e d ⊢;rcases e with e|⟨rfl,e⟩
  .rcases d with d|⟨rfl,d⟩
   .exact zh (UInt8.lt_trans e d)
   .exact zh e
  .rcases d with d|⟨rfl,d⟩
   .exact zh d
   .exact zg ⟨rfl,Cv a b c e d⟩
def UE(a:Λ):UU a a=false:=Eg _
def sV{a:Λ}(c:UU a b=false)(d:UU b a=false):a=b:=VJ (Gt _ _ c d)
def lt_trans{a c:Λ}(d:UU a b=true)(e:UU b c=true):UU a c=true:=Cv _ _ _ d e
def Jl{a:Λ}(h:UU a b=true):UU b a=false:=by
 cases c:UU b a;rfl;have:=lt_trans h c;rw[UE] at this;cases this
def yw(l:κ):Prop:=l.Pairwise λa b=>UU a b=true
def Cm:∀{a b:List Λ},yw a->yw b->(∀x,x∈a↔x∈b)->a=b
 |[],[],_,_,_=>rfl
 |[],y::b,_,_,h=>by have:=(h y).2 ζ;cases this
 |x::a,[],_,_,h=>by have:=(h x).1 ζ;cases this
 |x::a,y::b,p,q,h=>by
  obtain⟨i,l⟩:=fZ.1 p;obtain⟨d,k⟩:=fZ.1 q;have o:x=y:=by
   have g:=(h x).1 ζ;have f:=(h y).2 ζ;rcases z7.1 g with g|g
   .exact g
   .rcases z7.1 f with f|f
    .exact f.z
    .have s:=d x g;have r:=i y f;have:=lt_trans s r;rw[UE] at this;cases this
  subst o;have n:x∉a:=λc=>by have:=i x c;rw[UE] at this;cases this
  have m:x∉b:=λc=>by have:=d x c;rw[UE] at this;cases this
  rw[Cm l k (λz=>?_)];have j:=h z;simp only[z7] at j;constructor
  .intro c;rcases j.1 (zg c) with e|e
   .subst e;exact zC c n
   .exact e
  .intro c;rcases j.2 (zg c) with e|e
   .subst e;exact zC c m
   .exact e
def lV(l a:κ):Nat:=(l.filter λy=>!yr y a).j
def J7{l a:List Λ}{x:Λ}(k:x∈l)(m:x∉a):lV l (a++[x])<lV l a:=by
 unfold lV;have i:∀l:List Λ,(l.filter λy=>!yr y (a++[x])).j<=(l.filter λy=>!yr y a).j/\(x∈l->(l.filter λy=>!yr y (a++[x])).j<(l.filter λy=>!yr y a).j):=by
  intro l;induction l with
  |nil=>simp
  |cons y l j=>
   have d:yr y a=true->yr y (a++[x])=true:=λh=>qq.2 (zW.2 (zh (qq.1 h)));cases f:yr y a;cases c:yr y (a++[x]);simp only[x_,f,c,F_,if_true,xp];refine⟨η,λg=>?_⟩;rcases z7.1 g with e|e;subst e;rw[sZ] at c;simp at c;have:=j.2 e;omega;simp only[x_,f,c,pA,F_,fh,if_false,if_true,xp];exact⟨η,λ_=>η⟩;have c:=d f;simp only[x_,f,c,pA,fh,if_false];refine⟨j.1,λg=>j.2 ?_⟩;rcases z7.1 g with e|e;subst e;exact zC (qq.1 f) m;exact e
 exact(i l).2 k
def IF(l:List Λ):lV l []=l.j:=by
 simp[lV,yr]
end
section
variable {t:List zf}
def U4(t:List zf):κ:=t.w zf.name
def tP:∀(t:Ψ) (n:Λ),∀e∈t.G (zM t n),UU e.name n=true
 |[],_,e,h=>by simp at h
 |a::r,n,e,h=>by
  unfold zM at h;cases b:UU a.name n with
  |false=>simp[b] at h
  |true=>
   simp only[b,if_true,pE,z7] at h;rcases h with rfl|h
   .exact b
   .exact tP r n e h
def tI:∀(t:Ψ) (n:Λ),yw (U4 t)->∀e∈t.drop (zM t n),UU e.name n=false
 |[],_,_,e,h=>by simp at h
 |a::r,n,d,e,h=>by
  have b:yw (a.name::U4 r):=d;unfold yw at b;rw[fZ] at b;unfold zM at h;cases c:UU a.name n with
  |true=>
   simp only[c,if_true,mP] at h;exact tI r n b.2 e h
  |false=>
   simp only[c,fh,if_false,fA,z7] at h;rcases h with rfl|h
   .exact c
   .cases f:UU e.name n with
    |false=>rfl
    |true=>
     have:=lt_trans (b.1 e.name (z9.2 ⟨e,h,rfl⟩)) f;rw[c] at this;cases this
def pS{n:Λ}{e:zf}(h:zO t n=Z e):e∈t/\e.name=n:=by
 obtain⟨a,b,c⟩:=qr h;exact⟨by rw[←b];exact zr a,c⟩
def mF{n:Λ}(k:yw (U4 t))(h:zO t n=Y):∀e∈t,e.name≠n:=by
 intro e a i;rw[←jF (zM t n) t,zW] at a;rcases a with a|a;have:=tP t n e a;rw[i,UE] at this;cases this;rcases tX h with j|⟨j,f⟩;rw[uk η] at a;cases a;have d:=yK j;have g:=tI t n k t[zM t n] (by rw[d];exact sP);rw[d,z7] at a;rcases a with rfl|a;exact f i;have c:yw (U4 (t.drop (zM t n))):=by
  unfold yw U4 at *;rw[J_];exact k.sublist (List.drop_sublist _ _)
 rw[d] at c;have b:yw (t[zM t n].name::U4 (t.drop (zM t n+1))):=c;unfold yw at b;rw[fZ] at b;have:=b.1 e.name (z9.2 ⟨e,a,rfl⟩);rw[i,g] at this;cases this
def sM{x e:zf}{k:Nat}:e∈vP t x k↔e=x∨e∈t:=by
 unfold vP;rw[zW,z7];constructor;rintro(h|h|h);exact zg (gZ h);exact zh h;exact zg (fw h);rintro(h|h);exact zg (zh h);rw[←jF k t,zW] at h;rcases h with h|h;exact zh h;exact zg (zg h)
def RC{x:zf}(h:yw (U4 t))(j:∀e∈t,e.name≠x.name):yw (U4 (vP t x (zM t x.name))):=by
 have k:=tP t x.name;have l:=tI t x.name h;have g:∀e∈t.drop (zM t x.name),UU x.name e.name=true:=by
  intro e d;cases m:UU x.name e.name;exact zC (sV (l e d) m) (j e (fw d));rfl
 have c:=h;rw[←jF (zM t x.name) t] at c;unfold yw U4 at c ⊢;unfold vP;rw[uY,mK] at c;rw[uY,xU,mK,fZ];refine⟨c.1,⟨?_,c.2.1⟩,?_⟩;intro b f;obtain⟨e,d,rfl⟩:=z9.1 f;exact g e d;intro a i b f;obtain⟨e,d,rfl⟩:=z9.1 i;rcases z7.1 f with rfl|f;exact k e d;exact c.2.2 _ i b f
structure VT (t:List zf) (ls:List zk):Prop where
 rise:yw (U4 t)
 names:∀n,n∈U4 t↔∃l∈ls,l.o=n
 jh:∀e∈t,∀l∈ls,l.o=e.name->l.k.j=e.jh
def VT.step{u:Ψ}{ls:Ω}{l:zk}(h:VT t ls)(i:vZ t l=Z u):VT u (ls++[l]):=by
 unfold vZ at i;split at i;rename_i e r;obtain⟨c,p⟩:=pS r;split at i;rename_i q;simp only[zt] at i;subst i;refine⟨h.rise,λn=>?_,λm g d a b=>?_⟩;rw[h.names];constructor;rintro⟨d,a,b⟩;exact⟨d,by simp[a],b⟩;rintro⟨d,a,b⟩;rcases zW.1 a with a|a;exact⟨d,a,b⟩;simp at a;subst a;exact(h.names n).1 (z9.2 ⟨e,c,by rw[p,b]⟩);rcases zW.1 a with a|a;exact h.jh m g d a b;simp at a;subst a;obtain⟨s,o,k⟩:=(h.names e.name).1 (z9.2 ⟨e,c,rfl⟩);rw[←q,←h.jh e c s o k];exact h.jh m g s o (by rw[k,p,b]);cases i;rename_i r;simp only[zt] at i;subst i;have f:=mF h.rise r;refine⟨RC h.rise f,λn=>?_,λm g d a b=>?_⟩;constructor;intro p;obtain⟨e,c,rfl⟩:=z9.1 p;rcases sM.1 c with rfl|c;exact⟨l,ζ,rfl⟩;obtain⟨d,a,b⟩:=(h.names e.name).1 (z9.2 ⟨e,c,rfl⟩);exact⟨d,by simp[a],b⟩;rintro⟨d,a,b⟩;rcases zW.1 a with a|a;obtain⟨e,c,j⟩:=z9.1 ((h.names n).2 ⟨d,a,b⟩);exact z9.2 ⟨e,sM.2 (zg c),j⟩;simp at a;subst a;exact z9.2 ⟨_,sM.2 (zh rfl),b⟩;rcases sM.1 g with rfl|c;rcases zW.1 a with a|a;obtain⟨e,c,j⟩:=z9.1 ((h.names d.o).2 ⟨d,a,rfl⟩);exact zC (j.A b) (f e c);simp at a;subst a;rfl;rcases zW.1 a with a|a;exact h.jh m c d a b;simp at a;subst a;exact zC b.z (f m c)
def Gb:∀(ls done:Ω) (t a:Ψ),VT t done->ls.H uN (Z t)=Z a->VT a (done++ls)
 |[],done,t,a,h,e=>by simp at e;subst e;simpa using h
 |l::ls,done,t,a,h,e=>by
  rw[uQ] at e;cases b:vZ t l with
  |none=>rw[show uN (Z t) l=Y from b,sd] at e;cases e
  |some c=>
   rw[show uN (Z t) l=Z c from b] at e;have:=Gb ls (done++[l]) c a (h.step b) e;rwa [jt] at this
def rH:VT [] []:=⟨List.Pairwise.nil,λn=>by simp[U4],λe a=>by cases a⟩
def wy{cs:Ξ}(h:xV cs=Z t):VT t (cs.flatMap zj):=by
 have:=Gb (cs.flatMap zj) [] [] t rH h;simpa using this
end
section
variable {cs:List zd}
def up(l:zk):Nat:=if l.i then 1 else 0
def Vx(cs:List zd)(f:ByteArray->Nat):Prop:=∀c∈cs,∀l∈c.d,f l.o+up l<=f c.g.o
def Vl(cs:List zd)(f:ByteArray->Nat):Prop:=Vx cs f/\∀g,Vx cs g->∀n,f n<=g n
def Hv{g:Λ->Nat}(u:Vx cs g):∃f,Vl cs f:=by
 have a:∀n,∃k,(∃h,Vx cs h/\h n=k)/\∀h,Vx cs h->k<=h n:=by
  intro n;have i:∀m,(∃h,Vx cs h/\h n<=m)->∃k,(∃h,Vx cs h/\h n=k)/\∀h,Vx cs h->k<=h n:=by
   intro m;induction m with
   |zero=>rintro⟨h,b,q⟩;exact⟨0,⟨h,b,η⟩,λ_ _=>zs _⟩
   |succ m t=>
    intro r;by_cases o:∃h,Vx cs h/\h n<=m;exact t o;obtain⟨h,b,q⟩:=r;have d:∀e,Vx cs e->m+1<=e n:=λe j=>by
     false_or_by_contra;rename_i p;exact o ⟨e,j,η⟩
    exact⟨m+1,⟨h,b,by have:=d h b;omega⟩,d⟩
  exact i (g n) ⟨g,u,ze _⟩
 refine⟨λn=>(a n).choose,λc p l s=>?_,λh b n=>(a n).choose_spec.2 h b⟩;obtain⟨⟨h,b,v⟩,-⟩:=(a c.g.o).choose_spec;have w:=(a l.o).choose_spec.2 h b;have x:=b c p l s;simp only;omega
def WL:∀(N:Nat) (L:Φ),(∀k,k<=N->k∈L)->N+1<=L.j
 |0,L,h=>by
  have:=h 0 (ze _);cases L with
  |nil=>cases this
  |cons=>simp
 |N+1,L,h=>by
  have a:=h (N+1) (ze _);have:=WL N (L.erase (N+1)) λk b=>(lY η).2 (h k η);rw[n5 a] at this;have:0<L.j:=pn a;omega
def B7{f:Λ->Nat}(h:Vl cs f){ps:List Λ}(b:∀c∈cs,∀l∈zj c,l.o∈ps){n:Λ}(v:n∈ps):f n<ps.j:=by
 false_or_by_contra
 rename_i s;have r:∃k,k<=ps.j/\k∉ps.w f:=by
  apply i_;intro g;have:=WL ps.j (ps.w f) λk j=>i_ λi=>g ⟨k,j,i⟩;rw[xv] at this;omega
 obtain⟨k,j,d⟩:=r;have a:∀m∈ps,f m≠k:=λm t e=>d (z9.2 ⟨m,t,e⟩);have q:Vx cs λm=>if k<f m then f m-1 else f m:=by
  intro c p l o;have w:=h.1 c p l o;have z:=a l.o (b c p l (by simp[zj,o]));have y:up l<=1:=by unfold up;split<;>omega
  simp only;split<;>split<;>omega
 have u:=h.2 _ q n;have x:=a n v;split at u<;>omega
def Np{f a b:Λ->Nat}(h:Vl cs f)(g:∀n,a n<=b n)(d:∀n,b n<=f n)(i:∀c∈cs,∀l∈c.d,a l.o+up l<=b c.g.o)
  (j:∀n,b n=f n->a n=f n):∀n,a n=f n:=by
 apply i_;intro q;have ⟨n,y⟩:∃n,¬a n=f n:=i_ λw=>q λn=>i_ λo=>w ⟨n,o⟩;have t:Vx cs λm=>if a m=f m then f m else f m-1:=by
  intro c o l s;have u:=h.1 c o l s;have D:=i c o l s;have A:=g c.g.o;have z:=d c.g.o;have r:=j c.g.o;have x:=g l.o;have v:=d l.o;have C:up l<=1:=by unfold up;split<;>omega
  simp only;by_cases p:a l.o=f l.o;by_cases k:a c.g.o=f c.g.o;rw[zb p,zb k];exact u;have B:¬b c.g.o=f c.g.o:=λe=>k (r e);rw[zb p,za k];omega;by_cases k:a c.g.o=f c.g.o;rw[za p,zb k];omega;rw[za p,za k];omega
 have r:=h.2 _ t n;simp only[y,if_false] at r;have x:=g n;have v:=d n;omega
end
section
variable {t:List zf}
def val(t:List zf)(n:ByteArray):Nat:=match zO t n with
 |some e=>e.L
 |none=>0
def oL:∀{t c:Ψ},U4 t=U4 c->∀n,zM t n=zM c n
 |[],[],_,_=>rfl
 |[],_::_,h,_=>by simp[U4] at h
 |_::_,[],h,_=>by simp[U4] at h
 |a::r,b::q,h,n=>by
  simp only[U4,xU,m8] at h;unfold zM;rw[h.1,oL h.2 n]
def G3{k:Nat}{e:zf}(b:k<t.j)(a:e.name=t[k].name):U4 (t.set k e)=U4 t:=by
 unfold U4;rw[dY,a];apply qR ζ;intro i c d;rw[fG];split;rename_i h;subst h;simp;rfl
def Q0(t:Ψ)(n:Λ)(s:Nat):U4 (xW t n s).1=U4 t:=by
 unfold xW;split;rfl;rename_i e c;obtain⟨a,b,d⟩:=qr c;split;rfl;exact G3 a (by rw[b])
def Ti{n:Λ}{e:zf}(s:Nat)(h:zO t n=Z e)(m:Λ):zO (t.set (zM t n) {e with L:=s}) m=if m=n then Z {e with L:=s} else zO t m:=by
 obtain⟨a,d,f⟩:=qr h;have g:zM (t.set (zM t n) {e with L:=s}) m=zM t m:=oL (G3 a (by rw[d])) m;unfold zO;rw[g,sS];by_cases c:m=n;subst c;rw[zb rfl,zb rfl,zb a];simp[f];rw[za c];by_cases b:zM t n=zM t m;rw[zb b,zb a,←b,yn a,d];simp[f,I_ c];rw[za b]
def IJ(t:Ψ)(n:Λ)(s:Nat)(m:Λ):val (xW t n s).1 m=if m=n/\(zO t n).I=true then max (val t n) s else val t m:=by
 unfold xW;rcases b:zO t n with _|e;simp;simp only[jH,and_true];have d:val t n=e.L:=by simp[val,b]
 split;split;rename_i c f;rw[f,d];omega;rfl;rename_i c;unfold val;rw[Ti s b m,b];by_cases a:m=n;rw[zb a,zb a];simp only;omega;rw[za a,za a]
def Kk(t:Ψ)(n:Λ)(s:Nat):((xW t n s).2=false->(xW t n s).1=t)/\((xW t n s).2=true->val t n<val (xW t n s).1 n):=by
 constructor;unfold xW;split;exact λ_=>rfl;split;exact λ_=>rfl;intro h;cases h;intro h;rw[IJ];unfold xW at h;split at h;cases h;rename_i e a;split at h;cases h;rename_i b;have c:val t n=e.L:=by simp[val,a]
 rw[zb ⟨rfl,by simp[a]⟩];omega
def GH{t:Ψ}:∀(b:Ω) (n:Nat),n<=b.H (jj t) n/\∀l∈b,kK t l<=b.H (jj t) n
 |[],n=>⟨ze _,λl c=>by cases c⟩
 |a::b,n=>by
  have ⟨e,d⟩:=GH (t:=t) b (jj t n a);have f:n<=jj t n a/\kK t a<=jj t n a:=by unfold jj;split<;>omega
  rw[uQ];refine⟨η,λl c=>?_⟩;rcases z7.1 c with rfl|c
  .omega
  .exact d l c
def Ey{t:Ψ}{M:Nat}:∀(b:Ω) (n:Nat),n<=M->(∀l∈b,kK t l<=M)->b.H (jj t) n<=M
 |[],n,h,_=>h
 |a::b,n,h,c=>by
  rw[uQ];refine Ey b _ ?_ λl d=>c l (by simp[d]);have:=c a ζ;unfold jj;split<;>omega
def PX{l:zk}(h:(zO t l.o).I=true):kK t l=val t l.o+up l:=by
 unfold kK val up;rcases a:zO t l.o with _|e;rw[a] at h;cases h;simp only;split<;>rfl
end
section
variable {t t':List zf}
def C4(t:Ψ)(n:Λ):(zO t n).I=true↔(U4 t)[zM t n]?=Z n:=by
 unfold zO U4;rw[n8];rcases h:t[zM t n]? with _|e;simp;simp only[jY,zt];split<;>simp[*]
def G9(h:U4 t=U4 t')(n:Λ):(zO t n).I=true↔(zO t' n).I=true:=by
 rw[C4,C4,h,oL h n]
def gC(t:List zf)(cs:List zd):Prop:=∀c∈cs,∀l∈zj c,(zO t l.o).I=true
def gC.names{cs:Ξ}(h:gC t cs)(a:U4 t=U4 t'):gC t' cs:=λc d l b=>(G9 a _).1 (h c d l b)
structure EG (x y:List zf×Bool) (ds:List zd):Prop where
 names:U4 y.1=U4 x.1
 grow:∀n,val x.1 n<=val y.1 n
 step:∀c∈ds,∀l∈c.d,val x.1 l.o+up l<=val y.1 c.g.o
 low:∀f,Vx ds f->(∀n,val x.1 n<=f n)->∀n,val y.1 n<=f n
 still:y.2=false->y.1=x.1/\x.2=false
 moved:y.2=true->x.2=true∨∃n,val x.1 n<val y.1 n
def Ob{x:Ψ×Bool}{c:zd}(h:gC x.1 [c]):EG x (qB x c) [c]:=by
 have q:=h c ζ c.g (by simp[zj]);have i:∀l∈c.d,kK x.1 l=val x.1 l.o+up l:=λl i=>PX (h c ζ l (by simp[zj,i]));have o:=λm=>IJ x.1 c.g.o (jC x.1 c) m;have p:=Kk x.1 c.g.o (jC x.1 c);refine⟨Q0 _ _ _,λn=>?_,λr g l d=>?_,λf s a n=>?_,λj=>?_,λk=>?_⟩;show _<=val (xW _ _ _).1 n;rw[o];split;rename_i e;rw[e.1];omega;omega;simp at g;subst g;show _<=val (xW _ _ _).1 _;rw[o,zb ⟨rfl,q⟩,←i l d];have:=(GH (t:=x.1) r.d 0).2 l d;unfold jC;omega;show val (xW _ _ _).1 n<=_;rw[o];split;rename_i e;rw[e.1];have u:=a c.g.o;have b:jC x.1 c<=f c.g.o:=by
  unfold jC;refine Ey c.d 0 (zs _) λl d=>?_;have:=s c ζ l d;have:=a l.o;rw[i l d];omega
 omega;exact a n;have b:(x.2||(xW x.1 c.g.o (jC x.1 c)).2)=false:=j;rw[pY] at b;exact⟨p.1 b.2,b.1⟩;have b:(x.2||(xW x.1 c.g.o (jC x.1 c)).2)=true:=k;rw[ld] at b;rcases b with b|b;exact zh b;exact zg ⟨_,p.2 b⟩
def wF:∀(j:Ξ) (x:Ψ×Bool),gC x.1 j->EG x (j.H qB x) j
 |[],x,_=>⟨rfl,λ_=>ze _,λc r=>by(cases r),λ_ _ h=>h,λh=>⟨rfl,h⟩,λh=>zh h⟩
 |c::j,x,h=>by
  have d:=Ob (x:=x) (c:=c) λb a=>by simp at a;subst a;exact h b ζ
  have e:=wF j (qB x c) (gC.names (λb a=>h b (by simp[a])) d.names.z);rw[uQ];refine⟨e.names.A d.names,λn=>zX (d.grow n) (e.grow n),λb a l q=>?_,λf p k=>?_,λm=>?_,λo=>?_⟩
  .rcases z7.1 a with rfl|a
   .exact zX (d.step b ζ l q) (e.grow _)
   .have:=e.step b a l q;have:=d.grow l.o;omega
  .exact e.low f (λb a=>p b (by simp[a])) (d.low f (λb a=>by simp at a;subst a;exact p b ζ) k)
  .have i:=e.still m;have g:=d.still i.2;exact⟨i.1.A g.1,g.2⟩
  .rcases e.moved o with i|⟨n,i⟩
   .rcases d.moved i with g|⟨n,g⟩
    .exact zh g
    .exact zg ⟨n,yh g (e.grow n)⟩
   .exact zg ⟨n,Nat.lt_of_le_of_lt (d.grow n) i⟩
def AM{n:Λ}(h:n∉U4 t):val t n=0:=by
 unfold val;split;rename_i e c;obtain⟨b,a⟩:=pS c;exact zC (z9.2 ⟨e,b,a⟩) h;rfl
def rest(f:ByteArray->Nat)(t:List zf):Nat:=((U4 t).filter λn=>decide (val t n≠f n)).j
def Ov{f:Λ->Nat}(o:U4 t'=U4 t)(b:∀n,val t n=f n->val t' n=f n){m:Λ}(e:m∈U4 t)(k:val t m≠f m)(p:val t' m=f m):rest f t'<rest f t:=by
 unfold rest;rw[o];generalize U4 t=i at e;have h:∀l:List Λ,(l.filter λn=>decide (val t' n≠f n)).j<=(l.filter λn=>decide (val t n≠f n)).j:=by
  intro l;induction l with
  |nil=>simp
  |cons a l g=>
   by_cases c:val t a=f a;simp[c,b a c];simpa using g;by_cases d:val t' a=f a;simp[c,d];have:=g;simp at this;omega;simp[c,d];simpa using g
 induction i with
 |nil=>cases e
 |cons a i g=>
  have j:=h i;rcases z7.1 e with rfl|e;simp[k,p];simp at j;omega;have:=g e;by_cases c:val t a=f a;simp[c,b a c];simpa using this;by_cases d:val t' a=f a;simp[c,d];simp at this;omega;simp[c,d];simpa using this
def wt:∀(m:Nat) (t:Ψ) (cs:Ξ),gC t cs->U4 (xX m t cs).1=U4 t
 |0,_,_,_=>rfl
 |m+1,t,cs,h=>by
  have p:=wF cs (t,false) h;unfold xX;split
  .exact(wt m _ cs (h.names p.names.z)).A p.names
  .exact p.names
def Id{f:Λ->Nat}:∀(m:Nat) (t:Ψ) (cs:Ξ),gC t cs->Vx cs f->(∀n,val t n<=f n)->∀n,val (xX m t cs).1 n<=f n
 |0,_,_,_,_,h=>h
 |m+1,t,cs,h,b,a=>by
  have p:=wF cs (t,false) h;have:=p.low f b a;unfold xX;split
  .exact Id m _ cs (h.names p.names.z) b this
  .exact this
def it:∀(m:Nat) (t:Ψ) (cs:Ξ),gC t cs->(xX m t cs).2=true->Vx cs (val (xX m t cs).1)
 |0,_,_,_,h=>by cases h
 |m+1,t,cs,h,b=>by
  have p:=wF cs (t,false) h;unfold xX at b ⊢;split at b
  .rename_i a;rw[zb a];exact it m _ cs (h.names p.names.z) b
  .rename_i a;rw[za a];have f:=(p.still (by simpa [qD] using a)).1;intro c d l g;have e:=p.step c d l g;show val (cs.H qB (t,false)).1 l.o+up l<=val (cs.H qB (t,false)).1 c.g.o;rw[f] at e ⊢;exact e
def IB{f:Λ->Nat}{cs:Ξ}(l:Vl cs f):∀(m:Nat) (t:Ψ),gC t cs->(∀n,val t n<=f n)->rest f t<m->(xX m t cs).2=true
 |0,_,_,_,h=>η
 |m+1,t,h,c,u=>by
  have p:=wF cs (t,false) h;have a:=p.low f l.1 c;unfold xX;split
  .rename_i o;refine IB l m _ (h.names p.names.z) a ?_;have i:¬∀n,val t n=f n:=by
    intro b;rcases p.moved o with e|⟨n,e⟩
    .cases e
    .have:=a n;have:=b n;simp only at e;omega
   have ⟨n,j,g⟩:∃n,val (cs.H qB (t,false)).1 n=f n/\val t n≠f n:=by
    apply i_;intro d;exact i (Np l p.grow a p.step λn q=>i_ λo=>d ⟨n,q,o⟩)
   have s:n∈U4 t:=by
    apply i_;intro d;have e:=AM d;have v:val (cs.H qB (t,false)).1 n=0:=AM (by rw[p.names];exact d);omega
   have:=Ov (f:=f) (t:=t) p.names (λk r=>Nat.le_antisymm (a k) (by rw[←r];exact p.grow k)) s g j;show rest f (cs.H qB (t,false)).1<m;omega
  .rfl
def sW{cs:Ξ}(h:gC t cs)(b:∀n,val t n=0):((xX (t.j+1) t cs).2=true↔∃f,Vx cs f)/\((xX (t.j+1) t cs).2=true->Vl cs (val (xX (t.j+1) t cs).1)):=by
 refine⟨⟨λe=>⟨_,it _ t cs h e⟩,?_⟩,λe=>⟨it _ t cs h e,λg a=>Id _ t cs h a λn=>by rw[b];omega⟩⟩;rintro⟨g,a⟩;obtain⟨f,c⟩:=Hv a;refine IB c _ t h (λn=>by rw[b];omega) ?_;have:=sg (λn=>decide (val t n≠f n)) (U4 t);have d:(U4 t).j=t.j:=by simp[U4]
 unfold rest;omega
end
section
open Go.Proofs.Tryz Go.RowKit
def Wi(c:Int)(s:ByteArray):Bool:=s.data.v.any λb=>(b.D:Int) == c
def ry(c:Int)(s:Λ)(w:U)(hs:s.q<=1000):
  c_ e_ 105 #[.int .u8 c,.g s] w λe m=>e=ε (.i (Wi c s))/\m=w:=by
 go_enter func105,ntmps105;go_wp2;go_loop [5] (λi=>∃k:Nat,k<=s.q/\i=ι k/\X (Wi c s=(s.data.v.drop k).any λb=>(b.D:Int) == c)) (λi=>s.q-(d_ i).D);exact⟨0,zs _,rfl,rfl⟩;obtain⟨k,n,rfl,H⟩:=hrel;by_cases g:k<s.q
 .have f:k<s.data.v.j:=by rw[nZ];exact g
  have a:=Ck s.data.v (λb=>(b.D:Int) == c) k f;have h:s.data.v[k]=s[k]:=rfl;rw[h] at a;have l:X (Wi c s=(((s[k].D:Int) == c)||(s.data.v.drop (k+1)).any λb=>(b.D:Int) == c)):=by rw[X,H.l,a]
  cases j:((s[k].D:Int) == c)
  .have d:X (Wi c s=(s.data.v.drop (k+1)).any λb=>(b.D:Int) == c):=by rw[X,l.l,j];rfl
   go_wp2;go_round;exact⟨k+1,η,ξ,d⟩;simp[d_];omega
  have d:X (Wi c s=true):=by rw[X,l.l,j];rfl
  go_wp2;go_ret;exact⟨by rw[d.l];rfl,rfl⟩
 have d:X (Wi c s=false):=by rw[X,H.l,uk (by rw[nZ];show s.q<=k;omega)];rfl
 go_wp2;go_ret;exact⟨by rw[d.l];rfl,rfl⟩
def pC(p:Int->Bool)(s:Λ)(h:(w_ 256).all (λn=>Wi (n:Int) s == p (n:Int))=true)(c:Int)(a:0<=c)(b:c<256):Wi c s=p c:=by
 obtain⟨n,rfl⟩:=z_ a;have:=gu.1 h n υ;simpa using this
def Wo(c:Int):Bool:=c == 40||c == 41||c == 44||c == 46||c == 33
def nG(c:Int):Bool:=xg c||qA c
def J2(c:Int)(b:0<=c)(a:c<256):Wi c {data:=#[32,10]}=qU c:=pC qU _ (by decide +kernel) c b a
def Pi(c:Int)(b:0<=c)(a:c<256):Wi c {data:=#[48,49,50,51,52,53,54,55,56,57]}=yY c:=pC yY _ (by decide +kernel) c b a
def R4(c:Int)(b:0<=c)(a:c<256):Wi c {data:=#[97,98,99,100,101,102,103,104,105,106,107,108,109,110,111,112,113,114,115,116,117,118,119,120,121,122]}=xg c:=pC xg _ (by decide +kernel) c b a
def Mx(c:Int)(b:0<=c)(a:c<256):Wi c {data:=#[65,66,67,68,69,70,71,72,73,74,75,76,77,78,79,80,81,82,83,84,85,86,87,88,89,90]}=qA c:=pC qA _ (by decide +kernel) c b a
def Sw(c:Int)(b:0<=c)(a:c<256):Wi c {data:=#[97,98,99,100,101,102,103,104,105,106,107,108,109,110,111,112,113,114,115,116,117,118,119,120,121,122,65,66,67,68,69,70,71,72,73,74,75,76,77,78,79,80,81,82,83,84,85,86,87,88,89,90]}=nG c:=pC nG _ (by decide +kernel) c b a
def Sv(c:Int)(b:0<=c)(a:c<256):Wi c {data:=#[97,98,99,100,101,102,103,104,105,106,107,108,109,110,111,112,113,114,115,116,117,118,119,120,121,122,65,66,67,68,69,70,71,72,73,74,75,76,77,78,79,80,81,82,83,84,85,86,87,88,89,90,48,49,50,51,52,53,54,55,56,57]}=Ve c:=pC Ve _ (by decide +kernel) c b a
def Ls(c:Int)(b:0<=c)(a:c<256):Wi c {data:=#[40,41,44,46,33]}=Wo c:=pC Wo _ (by decide +kernel) c b a
def sa(c:Int)(w:U)(b:0<=c)(a:c<256):c_ e_ 105 #[.int .u8 c,.g {data:=#[32,10]}] w λe d=>e=ε (.i (qU c))/\d=w:=by
 have:=ry c {data:=#[32,10]} w θ;rw[J2 c b a] at this;exact this
def nh(c:Int)(w:U)(b:0<=c)(a:c<256):c_ e_ 105 #[.int .u8 c,.g {data:=#[48,49,50,51,52,53,54,55,56,57]}] w λe d=>e=ε (.i (yY c))/\d=w:=by
 have:=ry c {data:=#[48,49,50,51,52,53,54,55,56,57]} w θ;rw[Pi c b a] at this;exact this
def ML(c:Int)(w:U)(b:0<=c)(a:c<256):c_ e_ 105 #[.int .u8 c,.g {data:=#[97,98,99,100,101,102,103,104,105,106,107,108,109,110,111,112,113,114,115,116,117,118,119,120,121,122]}] w λe d=>e=ε (.i (xg c))/\d=w:=by
 have:=ry c {data:=#[97,98,99,100,101,102,103,104,105,106,107,108,109,110,111,112,113,114,115,116,117,118,119,120,121,122]} w θ;rw[R4 c b a] at this;exact this
def Oh(c:Int)(w:U)(b:0<=c)(a:c<256):c_ e_ 105 #[.int .u8 c,.g {data:=#[65,66,67,68,69,70,71,72,73,74,75,76,77,78,79,80,81,82,83,84,85,86,87,88,89,90]}] w λe d=>e=ε (.i (qA c))/\d=w:=by
 have:=ry c {data:=#[65,66,67,68,69,70,71,72,73,74,75,76,77,78,79,80,81,82,83,84,85,86,87,88,89,90]} w θ;rw[Mx c b a] at this;exact this
def nt(c:Int)(w:U)(b:0<=c)(a:c<256):c_ e_ 105 #[.int .u8 c,.g {data:=#[97,98,99,100,101,102,103,104,105,106,107,108,109,110,111,112,113,114,115,116,117,118,119,120,121,122,65,66,67,68,69,70,71,72,73,74,75,76,77,78,79,80,81,82,83,84,85,86,87,88,89,90]}] w λe d=>e=ε (.i (nG c))/\d=w:=by
 have:=ry c {data:=#[97,98,99,100,101,102,103,104,105,106,107,108,109,110,111,112,113,114,115,116,117,118,119,120,121,122,65,66,67,68,69,70,71,72,73,74,75,76,77,78,79,80,81,82,83,84,85,86,87,88,89,90]} w θ;rw[Sw c b a] at this;exact this
def lX(c:Int)(w:U)(b:0<=c)(a:c<256):c_ e_ 105 #[.int .u8 c,.g {data:=#[97,98,99,100,101,102,103,104,105,106,107,108,109,110,111,112,113,114,115,116,117,118,119,120,121,122,65,66,67,68,69,70,71,72,73,74,75,76,77,78,79,80,81,82,83,84,85,86,87,88,89,90,48,49,50,51,52,53,54,55,56,57]}] w λe d=>e=ε (.i (Ve c))/\d=w:=by
 have:=ry c {data:=#[97,98,99,100,101,102,103,104,105,106,107,108,109,110,111,112,113,114,115,116,117,118,119,120,121,122,65,66,67,68,69,70,71,72,73,74,75,76,77,78,79,80,81,82,83,84,85,86,87,88,89,90,48,49,50,51,52,53,54,55,56,57]} w θ;rw[Sv c b a] at this;exact this
def kT(c:Int)(w:U)(b:0<=c)(a:c<256):c_ e_ 105 #[.int .u8 c,.g {data:=#[40,41,44,46,33]}] w λe d=>e=ε (.i (Wo c))/\d=w:=by
 have:=ry c {data:=#[40,41,44,46,33]} w θ;rw[Ls c b a] at this;exact this
def gT(s:Λ)(w:U)(h:0<s.q):
  c_ e_ 184 #[.g s] w λe a=>e=ε (.i (xg (UC s 0)))/\a=w:=by
 have b:=fV s 0;rw[qK h] at b ⊢;go_enter func184,ntmps184;go_wp2_with (go_at_call 105;refine(ML _ _ η η).y ?_;rintro e a ⟨rfl,rfl⟩)
 go_ret;exact⟨rfl,rfl⟩
def oq(s:Λ)(w:U)(h:0<s.q):
  c_ e_ 154 #[.g s] w λe a=>e=ε (.i (qA (UC s 0)))/\a=w:=by
 have b:=fV s 0;rw[qK h] at b ⊢;go_enter func154,ntmps154;go_wp2_with (go_at_call 105;refine(Oh _ _ η η).y ?_;rintro e a ⟨rfl,rfl⟩)
 go_ret;exact⟨rfl,rfl⟩
def nJ(s:Λ)(w:U)(h:0<s.q):
  c_ e_ 185 #[.g s] w λe a=>e=ε (.i (Ve (UC s 0)))/\a=w:=by
 have b:=fV s 0;rw[qK h] at b ⊢;go_enter func185,ntmps185;go_wp2_with (go_at_call 105;refine(lX _ _ η η).y ?_;rintro e a ⟨rfl,rfl⟩)
 go_ret;exact⟨rfl,rfl⟩
def Du(s:Λ)(h:1<s.q):((s.extract 0 2).v == [58,45])=(decide (UC s 0=58)&&decide (UC s 1=45)):=by
 rw[ku,qK (by omega:0<s.q),qK h];have d:(s.extract 0 2).data.v=[s[0],s[1]]:=by
  rw[ByteArray.data_extract,Array.toList_extract];obtain⟨⟨l⟩⟩:=s;match l,h with
  |a::b::r,_=>rfl
 rw[d];have e:∀(x:UInt8) (n:UInt8),(x == n)=decide ((x.D:Int)=(n.D:Int)):=λx n=>by
  by_cases c:x=n;subst c;simp;rw[beq_eq_false_iff_ne.2 c];symm;rw[decide_eq_false_iff_not];intro f;exact c (UInt8.toNat_inj.1 η)
 simp only[List.cons_beq_cons,e,List.nil_beq_eq,List.isEmpty_nil,Bool.and_true];rfl
def xB(s:ByteArray):Nat:=y7 s 0 (xy (UC s 0) (UC s 1))
def L7(s:Λ)(w:U)(_:s.q<=500)(f:1<s.q)(c:UC s 0=58)(b:UC s 1=45):
  c_ e_ 106 #[.g s] w λe h=>e=ε (ι (xB s))/\h=w:=by
 have d:X (xB s=2):=by unfold X xB;rw[c,b];rfl
 have a:=Du s f;rw[c,b] at a;have g:((s.extract 0 2).v == [58,45])=true:=a;clear a c b;go_enter func106,ntmps106;go_wp2_with fail
 go_ret;exact⟨by rw[d.l];rfl,rfl⟩
def wL(s:ByteArray):Prop:=¬1<s.q∨(1<s.q/\((s.extract 0 2).v == [58,45])=false)
def MA(s:Λ)(h:¬(UC s 0=58/\UC s 1=45)):wL s:=by
 by_cases a:1<s.q;right;refine⟨a,?_⟩;rw[Du s a];simp only[ik,decide_eq_false_iff_not];omega;left;exact a
def Lb(s:Λ)(w:U)(hs:s.q<=500)(g:0<s.q)(c:wL s)(h:Wo (UC s 0)=true):
  c_ e_ 106 #[.g s] w λe d=>e=ε (ι (1))/\d=w:=by
 have b:=fV s 0;have a:=qK g;rw[a] at b h;clear a;rcases c with c|⟨f,c⟩
 all_goals
  go_enter func106,ntmps106;go_wp2_with (go_at_call 105;refine(kT _ _ η η).y ?_;rintro e d ⟨rfl,rfl⟩)
  go_ret;exact⟨rfl,rfl⟩
def OH(s:Λ)(w:U)(hs:s.q<=500)(o:0<s.q)(l:wL s)(h:Wo (UC s 0)=false)(m:yY (UC s 0)=true):
  c_ e_ 106 #[.g s] w λe a=>e=ε (ι (yN yY s 0))/\a=w:=by
 have i:=fV s 0;have j:=qK o;rw[j] at i h m;rcases l with l|⟨n,l⟩
 all_goals
  go_enter func106,ntmps106;go_wp2_with (first|(go_at_call 105;with_reducible refine(kT _ _ η η).y ?_;rintro e a ⟨rfl,rfl⟩)|(go_at_call 105;with_reducible refine(nh _ _ η η).y ?_;rintro e a ⟨rfl,rfl⟩)|(go_at_call 105;with_reducible refine(nt _ _ η η).y ?_;rintro e a ⟨rfl,rfl⟩)|(go_at_call 105;with_reducible refine(lX _ _ η η).y ?_;rintro e a ⟨rfl,rfl⟩))
  go_loop [3] (λt=>∃k:Nat,k<=s.q/\t=ι k/\X (yN yY s 0=yN yY s k)) (λt=>s.q-(d_ t).D);exact⟨0,zs _,rfl,rfl⟩;obtain⟨k,p,rfl,H⟩:=hrel;by_cases c:k<s.q
  .have f:=qK c;have g:=fV s k;cases b:yY (UC s k)
   .have d:X (yN yY s 0=k):=by rw[X.out H,p6 b];rfl
    rw[f] at b g;go_wp2_with (first|(go_at_call 105;with_reducible refine(kT _ _ η η).y ?_;rintro e a ⟨rfl,rfl⟩)|(go_at_call 105;with_reducible refine(nh _ _ η η).y ?_;rintro e a ⟨rfl,rfl⟩)|(go_at_call 105;with_reducible refine(nt _ _ η η).y ?_;rintro e a ⟨rfl,rfl⟩)|(go_at_call 105;with_reducible refine(lX _ _ η η).y ?_;rintro e a ⟨rfl,rfl⟩))
    go_ret;exact⟨by rw[X.out d];rfl,rfl⟩
   have d:X (yN yY s 0=yN yY s (k+1)):=by rw[X.out H,np c b];rfl
   rw[f] at b g;go_wp2_with (first|(go_at_call 105;with_reducible refine(kT _ _ η η).y ?_;rintro e a ⟨rfl,rfl⟩)|(go_at_call 105;with_reducible refine(nh _ _ η η).y ?_;rintro e a ⟨rfl,rfl⟩)|(go_at_call 105;with_reducible refine(nt _ _ η η).y ?_;rintro e a ⟨rfl,rfl⟩)|(go_at_call 105;with_reducible refine(lX _ _ η η).y ?_;rintro e a ⟨rfl,rfl⟩))
   go_round;exact⟨k+1,η,ξ,d⟩;simp[d_];omega
  have d:X (yN yY s 0=k):=by rw[X.out H,fS c];rfl
  go_wp2_with (first|(go_at_call 105;with_reducible refine(kT _ _ η η).y ?_;rintro e a ⟨rfl,rfl⟩)|(go_at_call 105;with_reducible refine(nh _ _ η η).y ?_;rintro e a ⟨rfl,rfl⟩)|(go_at_call 105;with_reducible refine(nt _ _ η η).y ?_;rintro e a ⟨rfl,rfl⟩)|(go_at_call 105;with_reducible refine(lX _ _ η η).y ?_;rintro e a ⟨rfl,rfl⟩))
  go_ret;exact⟨by rw[X.out d];rfl,rfl⟩
def Th(s:Λ)(w:U)(hs:s.q<=500)(p:0<s.q)(l:wL s)(h:Wo (UC s 0)=false)(m:yY (UC s 0)=false)(o:nG (UC s 0)=true):
  c_ e_ 106 #[.g s] w λe a=>e=ε (ι (yN Ve s 0))/\a=w:=by
 have i:=fV s 0;have j:=qK p;rw[j] at i h m o;rcases l with l|⟨n,l⟩
 all_goals
  go_enter func106,ntmps106;go_wp2_with (first|(go_at_call 105;with_reducible refine(kT _ _ η η).y ?_;rintro e a ⟨rfl,rfl⟩)|(go_at_call 105;with_reducible refine(nh _ _ η η).y ?_;rintro e a ⟨rfl,rfl⟩)|(go_at_call 105;with_reducible refine(nt _ _ η η).y ?_;rintro e a ⟨rfl,rfl⟩)|(go_at_call 105;with_reducible refine(lX _ _ η η).y ?_;rintro e a ⟨rfl,rfl⟩))
  go_loop [3] (λt=>∃k:Nat,k<=s.q/\t=ι k/\X (yN Ve s 0=yN Ve s k)) (λt=>s.q-(d_ t).D);exact⟨0,zs _,rfl,rfl⟩;obtain⟨k,q,rfl,H⟩:=hrel;by_cases c:k<s.q
  .have f:=qK c;have g:=fV s k;cases b:Ve (UC s k)
   .have d:X (yN Ve s 0=k):=by rw[X.out H,p6 b];rfl
    rw[f] at b g;go_wp2_with (first|(go_at_call 105;with_reducible refine(kT _ _ η η).y ?_;rintro e a ⟨rfl,rfl⟩)|(go_at_call 105;with_reducible refine(nh _ _ η η).y ?_;rintro e a ⟨rfl,rfl⟩)|(go_at_call 105;with_reducible refine(nt _ _ η η).y ?_;rintro e a ⟨rfl,rfl⟩)|(go_at_call 105;with_reducible refine(lX _ _ η η).y ?_;rintro e a ⟨rfl,rfl⟩))
    go_ret;exact⟨by rw[X.out d];rfl,rfl⟩
   have d:X (yN Ve s 0=yN Ve s (k+1)):=by rw[X.out H,np c b];rfl
   rw[f] at b g;go_wp2_with (first|(go_at_call 105;with_reducible refine(kT _ _ η η).y ?_;rintro e a ⟨rfl,rfl⟩)|(go_at_call 105;with_reducible refine(nh _ _ η η).y ?_;rintro e a ⟨rfl,rfl⟩)|(go_at_call 105;with_reducible refine(nt _ _ η η).y ?_;rintro e a ⟨rfl,rfl⟩)|(go_at_call 105;with_reducible refine(lX _ _ η η).y ?_;rintro e a ⟨rfl,rfl⟩))
   go_round;exact⟨k+1,η,ξ,d⟩;simp[d_];omega
  have d:X (yN Ve s 0=k):=by rw[X.out H,fS c];rfl
  go_wp2_with (first|(go_at_call 105;with_reducible refine(kT _ _ η η).y ?_;rintro e a ⟨rfl,rfl⟩)|(go_at_call 105;with_reducible refine(nh _ _ η η).y ?_;rintro e a ⟨rfl,rfl⟩)|(go_at_call 105;with_reducible refine(nt _ _ η η).y ?_;rintro e a ⟨rfl,rfl⟩)|(go_at_call 105;with_reducible refine(lX _ _ η η).y ?_;rintro e a ⟨rfl,rfl⟩))
  go_ret;exact⟨by rw[X.out d];rfl,rfl⟩
def Lc(s:Λ)(w:U)(hs:s.q<=500)(j:0<s.q)(d:wL s)(h:Wo (UC s 0)=false)(f:yY (UC s 0)=false)(i:nG (UC s 0)=false):
  c_ e_ 106 #[.g s] w λe a=>e=ε (ι (0))/\a=w:=by
 have c:=fV s 0;have b:=qK j;rw[b] at c h f i;rcases d with d|⟨g,d⟩
 all_goals
  go_enter func106,ntmps106;go_wp2_with (first|(go_at_call 105;with_reducible refine(kT _ _ η η).y ?_;rintro e a ⟨rfl,rfl⟩)|(go_at_call 105;with_reducible refine(nh _ _ η η).y ?_;rintro e a ⟨rfl,rfl⟩)|(go_at_call 105;with_reducible refine(nt _ _ η η).y ?_;rintro e a ⟨rfl,rfl⟩)|(go_at_call 105;with_reducible refine(lX _ _ η η).y ?_;rintro e a ⟨rfl,rfl⟩))
  go_ret;exact⟨rfl,rfl⟩
def Wm(s:Λ)(w:U)(hs:s.q<=500)(f:0<s.q):
  c_ e_ 106 #[.g s] w λe k=>e=ε (ι (xB s))/\k=w:=by
 by_cases a:UC s 0=58/\UC s 1=45;refine L7 s w hs ?_ a.1 a.2;false_or_by_contra;rename_i d;rw[pR d] at a;omega
 have d:=MA s a;cases h:Wo (UC s 0);have i:fE (UC s 0)=0:=by
  simp only[Wo,pY,beq_eq_false_iff_ne] at h;unfold fE;simp[h]
 cases c:yY (UC s 0);cases b:nG (UC s 0);have:=Lc s w hs f d h c b;have e:xB s=0:=by
  simp only[nG,pY] at b;unfold xB xy;simp[b.1,b.2,c,a,i,y7]
 rw[e];exact this;have:=Th s w hs f d h c b;have e:xB s=yN Ve s 0:=by
  unfold xB xy;simp only[nG,ld] at b;cases g:xg (UC s 0);rw[g] at b;simp at b;simp[b,y7];simp[y7]
 rw[e];exact this;have:=OH s w hs f d h c;have e:xB s=yN yY s 0:=by
  have g:xg (UC s 0)=false:=by simp[yY,xg] at c ⊢;omega
  have j:qA (UC s 0)=false:=by simp[yY,qA] at c ⊢;omega
  unfold xB xy;simp[g,j,c,y7]
 rw[e];exact this;have:=Lb s w hs f d h;have e:xB s=1:=by
  unfold xB xy;simp only[Wo,ld,beq_iff_eq] at h;rcases h with (((h|h)|h)|h)|h<;>rw[h]<;>rfl
 rw[e];exact this
end
section
open Go.Proofs.Tryz Go.RowKit
variable {n:Nat}{s:ByteArray}{o:Option (κ)}
def xC:Nat->ByteArray->Option (κ)
 |0,_=>Z []
 |n+1,s=>if s.q=0 then Z [] else if qU (UC s 0) then xC n (s.extract 1 s.q) else if xB s=0 then Y else if 6<xB s then Y
  else(xC n (s.extract (xB s) s.q)).map (s.extract 0 (xB s)::·)
def B6(h:s.q=0):xC n s=Z []:=by cases n<;>simp[xC,h]
def Hy(h:0<s.q)(a:qU (UC s 0)=true):xC (n+1) s=xC n (s.extract 1 s.q):=by simp[xC,K_ h,a]
def Ce(h:0<s.q)(b:qU (UC s 0)=false)(a:xB s=0∨6<xB s):xC (n+1) s=none:=by
 simp only[xC,za (K_ h),b];rcases a with a|a;simp[a];simp[a]
def EY(h:0<s.q)(c:qU (UC s 0)=false)(a:xB s≠0)(b:¬6<xB s):xC (n+1) s=(xC n (s.extract (xB s) s.q)).map (s.extract 0 (xB s)::·):=by
 simp[xC,K_ h,c,a,b]
def IY(h:6<xB s):UC s 0≠58/\Wo (UC s 0)=false:=by
 unfold xB xy at h;refine⟨λc=>?_,?_⟩;rw[c] at h;by_cases b:UC s 1=45;rw[b] at h;simp[xg,qA,yY,y7] at h;simp[xg,qA,yY,y7,b,fE] at h;false_or_by_contra
 rename_i a;simp only[wQ,Wo,ld,beq_iff_eq] at a;rcases a with (((a|a)|a)|a)|a<;>(rw[a] at h;simp[xg,qA,yY,y7,fE] at h)
def KT(s:Λ)(a:0<s.q):xB s<=s.q:=by
 unfold xB;by_cases h:xy (UC s 0) (UC s 1)=0;rw[h];simp[y7];exact(wH s 0 _ a rfl h).2
def Ac(o:Option (κ))(w:U)(e:Ending)(w':U):Prop:=
 μ w w'/\match o with
  |none=>e=ε (.B #[ν,.i false])
  |some l=>∃v,e=ε (.B #[v,.i true])/\w'.r w.o.q 9 1 v l.j (l.map j_)
def o5{w w':U}(h:X (o=Y))(b:μ w w'):Ac o w (ε (.B #[ν,.i false])) w':=by
 have a:o=none:=h;subst a;exact⟨b,rfl⟩
def PK{w w':U}{l:List Λ}{v:O}(h:X (o=Z l))(c:μ w w')(a:w'.r w.o.q 9 1 v l.j (l.map j_)):Ac o w (ε (.B #[v,.i true])) w':=by
 have b:o=Z l:=h;subst b;exact⟨c,v,rfl,a⟩
def iA(s:Λ)(w:U)(hs:s.q<=500):
  c_ e_ 65 #[.g s] w λe f=>Ac (xC s.q s) w e f:=by
 obtain⟨R,T,B,E,G⟩:=info_parts Uw;go_enter func65,ntmps65;go_wp2;go_loopg [0,4] (s.q) (λn u v wr=>∃(a:Λ) (b:List Λ) (m:Nat),u=.g a/\a.q<=n/\a.q<=m/\b.j+a.q<=s.q/\X (xC s.q s=(xC m a).map (b++·)) ∧
   wr.r w.o.q 9 1 v b.j (b.map j_)/\μ w wr)
 case atStart=>exact⟨s,[],s.q,rfl,ze _,ze _,ζ,(by simp[X]),xj _ _ _ _,zn _ _⟩
 obtain⟨a,b,m,rfl,hn,V,P,H,j,g⟩:=hrel;by_cases x:0<a.q
 .have p:=fV a 0;have d:=qK x;have L:(a.v == [])=false:=by
   rw[ku,beq_eq_false_iff_ne];intro h;have:a.data.v.j=a.q:=nZ;rw[h] at this;simp at this;omega
  obtain⟨m,rfl⟩:∃S,m=S+1:=⟨m-1,η⟩;cases r:qU (UC a 0)
  .have i:=U2 λW=>Wm a W η x;have J:=KT a x;by_cases k:xB a=0∨6<xB a
   .have l:X (xC s.q s=Y):=by rw[X,H.l,Ce x r k];rfl
    rcases k with k|k
    .rw[k] at i;rw[d] at r p;clear H d k J;by_cases c:((a[0].D:Int) == 58)=true
     .go_wp2_with (first|(go_at_call 105;with_reducible refine(sa _ _ η η).y ?_;rintro e f ⟨rfl,rfl⟩)|(go_at_call 105;with_reducible refine(kT _ _ η η).y ?_;rintro e f ⟨rfl,rfl⟩)|(go_at_call 106;refine(i.l _).y ?_;rintro e f ⟨rfl,rfl⟩))
      go_ret2
      exact o5 l g
     have q:((a[0].D:Int) == 58)=false:=by simpa using c
     clear c;go_wp2_with (first|(go_at_call 105;with_reducible refine(sa _ _ η η).y ?_;rintro e f ⟨rfl,rfl⟩)|(go_at_call 105;with_reducible refine(kT _ _ η η).y ?_;rintro e f ⟨rfl,rfl⟩)|(go_at_call 106;refine(i.l _).y ?_;rintro e f ⟨rfl,rfl⟩))
     go_ret2
     exact o5 l g
    obtain⟨c,A⟩:=IY k;rw[d] at r p c A;have q:((a[0].D:Int) == 58)=false:=by simpa using c
    clear H d c;generalize xB a=t at *;have M:((t:Int) == 0)=false:=by rw[beq_eq_false_iff_ne];omega
    go_wp2_with (first|(go_at_call 105;with_reducible refine(sa _ _ η η).y ?_;rintro e f ⟨rfl,rfl⟩)|(go_at_call 105;with_reducible refine(kT _ _ η η).y ?_;rintro e f ⟨rfl,rfl⟩)|(go_at_call 106;refine(i.l _).y ?_;rintro e f ⟨rfl,rfl⟩))
    go_ret2
    exact o5 l g
   have C:xB a≠0:=λh=>k (zh h);have F:¬6<xB a:=λh=>k (zg h);have l:X (xC s.q s=(xC m (a.extract (xB a) a.q)).map ((b++[a.extract 0 (xB a)])++·)):=by rw[X,H.l,EY x r C F,tH]
   rw[d] at r p;clear H d k;generalize xB a=t at *;have M:((t:Int) == 0)=false:=by rw[beq_eq_false_iff_ne];omega
   have y:(a.extract t a.q).q=a.q-t:=by rw[l_];omega
   by_cases c:((a[0].D:Int) == 58)=true;rotate_left
   have q:((a[0].D:Int) == 58)=false:=by simpa using c
   clear c
   all_goals
    go_wp2_with (first|(go_at_call 105;with_reducible refine(sa _ _ η η).y ?_;rintro e f ⟨rfl,rfl⟩)|(go_at_call 105;with_reducible refine(kT _ _ η η).y ?_;rintro e f ⟨rfl,rfl⟩)|(go_at_call 106;refine(i.l _).y ?_;rintro e f ⟨rfl,rfl⟩)|(at_builtin;refine kU _ _ _ _ rfl (.tmp 34) (.tmp 38) 30 rfl w.o.q 9 R _ 1 16 underlying30 T B E G rfl θ _ _ _ rfl j (zn _ _) _ _ rfl ζ rfl a_ η η g.q ?_;intro v' w2 z I K D Q N;clear K D))
    go_roundg (a.q-1)
    case measure=>omega
    exact⟨_,b++[a.extract 0 t],m,rfl,η,η,by simp;omega,l,by simpa using z,g.A I⟩
  have l:X (xC s.q s=(xC m (a.extract 1 a.q)).map (b++·)):=by rw[X,H.l,Hy x r]
  have y:(a.extract 1 a.q).q=a.q-1:=by rw[l_];omega
  rw[d] at r p;clear H d;go_wp2_with (go_at_call 105;with_reducible refine(sa _ _ η η).y ?_;rintro e f ⟨rfl,rfl⟩)
  go_roundg (a.q-1)
  case measure=>omega
  exact⟨_,b,m,rfl,η,η,η,l,j,g⟩
 have y:a.q=0:=η;have l:X (xC s.q s=Z b):=by rw[X,H.l,B6 y];simp
 have L:(a.v == [])=true:=by
  rw[ku,beq_iff_eq];exact lK (by rw[nZ];exact y)
 clear H;go_wp2_with (first|(go_at_call 105;with_reducible refine(sa _ _ η η).y ?_;rintro e f ⟨rfl,rfl⟩)|(go_at_call 105;with_reducible refine(kT _ _ η η).y ?_;rintro e f ⟨rfl,rfl⟩)|(go_at_call 106;refine(i.l _).y ?_;rintro e f ⟨rfl,rfl⟩))
 go_ret2
 exact PK l g j
end
section
open Go.Proofs.Tryz Go.RowKit
variable {w:U}{v:O}{l:κ}
def SV(w:U)(v:O)(l:κ):Prop:=∃c a,v=.slice c l.j a/\l.j<=a ∧
 ((c=Y/\a=0)∨∃b o,c=Z ⟨b,o,Y⟩/\b<w.o.q/\∀k (d:k<l.j),w.p ⟨b,o+k,Y⟩=Z (.g l[k]))
def SV.of{b:Nat}(h:w.r b 9 1 v l.j (l.map j_)):SV w v l:=by
 have o:=h;obtain⟨_,⟨c,p⟩|⟨g,e,n,c,_,i,m,_⟩⟩:=h;refine⟨Y,0,?_,η,zh ⟨rfl,rfl⟩⟩;rw[c,p];refine⟨_,e,c,m,zg ⟨g,0,rfl,(kB.1 i).1,λk j=>?_⟩⟩;obtain⟨q,f,a,_,_,d⟩:=yt o η;rw[c] at a;simp at a;obtain⟨rfl,_⟩:=a;rw[uM];exact d k _ (by simp[j])
def SV.qm(h:SV w v l):∃b a,v=.slice b l.j a:=by obtain⟨b,a,c,_⟩:=h;exact⟨b,a,c⟩
def SV.u{w':U}(h:SV w v l)(f:μ w w'):SV w' v l:=by
 obtain⟨g,d,j,n,e⟩:=h;refine⟨g,d,j,n,?_⟩;rcases e with e|⟨b,o,m,a,c⟩;exact zh e;exact zg ⟨b,o,m,yh a f.q,λk i=>(f.cell (p:=(ω b (o+k))) a).A (c k i)⟩
def SV.cell{w:U}{d:Option Addr}{n cap:Nat}{l:List Λ}(h:SV w (.slice d n cap) l)(k:Nat)(j:k<l.j):∃b o,d=Z (ω b o)/\b<w.o.q/\w.p (ω b (o+k))=Z (.g l[k]):=by
 obtain⟨i,g,e,p,f⟩:=h;simp at e;obtain⟨rfl,_,rfl⟩:=e;rcases f with⟨_,f⟩|⟨b,o,m,c,a⟩
 omega;exact⟨b,o,m,c,a k j⟩
def SV.E{d:Option Addr}{n cap:Nat}(h:SV w (.slice d n cap) l)(p:0<l.j):∃b o,d=Z (ω b o)/\b<w.o.q/\∀k (m:k<l.j),w.p (ω b (o+k))=Z (.g l[k]):=by
 obtain⟨i,g,e,q,f⟩:=h;simp at e;obtain⟨rfl,_,rfl⟩:=e;rcases f with⟨_,f⟩|⟨b,o,j,c,a⟩
 omega;exact⟨b,o,j,c,a⟩
section
variable {P:Program} {ops:Array Oper} {rest:List Oper} {o:Oper} {a:Act} {Q:Exit->Act->U->Prop}
def jE(w E:U)(R:o.guard=Y)(x:Operand)(t e:f_)(lo p:Option Operand)(A:o.op=.slice t x lo p Y)
  (I:P.underlying t=Z (.slice e)) (u:TypeInfo) (N:P.info? e=Z u) (y:P.cellsOf e=1) (v:O) (l:List Λ) (T:a.eval x=v) (V:SV E v l)
  (i j:Nat) (B:lo.map a.eval=Y/\i=0∨lo.map a.eval=Z (ι (i:Int))) (z:p.map a.eval=Y/\j=l.j∨p.map a.eval=Z (ι (j:Int))) (M:i<=j) (hj:j<=l.j) (n:Nat) (hn:j-i=n)
  (S:∀f c,SV E (.slice f n c) ((l.drop i).G n)->wpList P ops Q rest (a.put o.dst (.slice f n c)) w):wpList P ops Q (o::rest) a w:=by
 subst hn;obtain⟨f,c,rfl,hc,W⟩:=V;have J:(j:Int)<=(c:Int):=η;have L:(i:Int)<=(j:Int):=η;have H:(Instr.sliceBounds true l.j c (lo.map a.eval) (p.map a.eval) Y).run P w=.ok (i,j,c) w:=by
  rcases B with⟨D,rfl⟩|D<;>rcases z with⟨F,rfl⟩|F<;>rw[D,F]<;>simp[Instr.sliceBounds,run_sliceBound,J,L]
 refine wpList_plain R λK r=>?_;unfold Oper.wp;have d:((l.drop i).G (j-i)).j=j-i:=by simp;omega
 have C:(sizeOf e).run P w=.ok 1 w:=by rw[←y];simp[sizeOf,typeInfo,Program.cellsOf,N]
 have m:(Instr.sliceAt t (.slice f l.j c) (lo.map a.eval) (p.map a.eval) Y).run P w=.ok (.slice (if c=i then f else f.map (·.add (i*1))) (j-i) (c-i)) w:=by
  simp[Instr.sliceAt,run_underlying I,Instr.slice,H,C]
 simp only[execOp,A,T,Option.map_none,m,Sem.run_bind,Result.andThen];simp;refine r _ _ (S _ _ ?_);refine⟨_,_,by rw[d],by rw[d];omega,?_⟩;rcases W with⟨rfl,rfl⟩|⟨b,G,rfl,h,s⟩
 left;exact⟨by split<;>rfl,η⟩;right;by_cases g:c=i;refine⟨b,G,by rw[zb g],h,λk q=>?_⟩;rw[d] at q;omega;refine⟨b,G+i,?_,h,λk q=>?_⟩;rw[za g];simp[y_];rw[d] at q;rw[Nat.add_assoc,s (i+k) η];simp
end
def TW:e_.cellsOf 9=1:=χ
end
section
open Go.RowKit
variable {lo:Nat}{l:κ}
def gB(l:κ)(i:Nat):ByteArray:=l.d i g_
def xK{i:Nat}(h:i<l.j):l[i]=gB l i:=by simp[gB,h]
def W7(l:κ)(i:Nat):Bool:=if i%2=0 then Ve (UC (gB l i) 0) else((gB l i).v == [44])
def vw(l:κ):Nat->κ
 |0=>[]
 |i+1=>vw l i++(if 2<=i/\i%2=0 then [gB l i] else [])
def BG(l:List Λ):∀i,(vw l i).j<=i
 |0=>ze _
 |i+1=>by have:=BG l i;unfold vw;split<;>simp<;>omega
def qP(l:κ):Nat->Bool
 |0=>true
 |i+1=>qP l i&&(decide (i<2)||W7 l i)
def Ih{i:Nat}(h:qP l i=false):∀k,i<=k->qP l k=false:=by
 intro k c;induction k with
 |zero=>
  have:i=0:=η;subst this;exact h
 |succ k b=>
  rcases dE k i with a|a;have:i=k+1:=η;subst this;exact h;simp[qP,b a]
def x9(neg:Bool)(l:κ):Option zk:=
 if l.j=0 then Y else if xg (UC (gB l 0) 0)=false then Y else if l.j=1 then Z ⟨neg,gB l 0,[]⟩
 else if l.j<4∨l.j%2=1∨((gB l 1).v == [40])=false∨((gB l (l.j-1)).v == [41])=false then Y
 else if qP l (l.j-1) then Z ⟨neg,gB l 0,vw l (l.j-1)⟩ else Y
def Vo(l:κ)(a:Bool):Bool:=decide (0<l.j)&&((gB l 0).v == [33])&&!a
def kj(l:κ)(a:Bool):Option zk:=if Vo l a then x9 true l.tail else x9 false l
def jV(o:Option zk)(w:U)(e:Ending)(w':U):Prop:=
 μ w w'/\match o with
  |none=>∃b p f n c,e=ε (.B #[.agg #[.i b,.g p,.k f n c],.i false])
  |some a=>∃d,e=ε (.B #[.agg #[.i a.i,.g a.o,d],.i true])/\U7 w.o.q w' d a.k
def nX{a:Bool}(c:Vo l a=false):¬0<l.j∨(0<l.j/\((gB l 0).v == [33])=false)∨((0<l.j/\((gB l 0).v == [33])=true)/\a=true):=by
 by_cases b:0<l.j;right;simp only[Vo,decide_eq_true b,pk,ik] at c;cases h:((gB l 0).v == [33]);exact zh ⟨b,rfl⟩;rw[h] at c;simp at c;exact zg ⟨⟨b,rfl⟩,c⟩;exact zh b
end
section
variable {l:κ}
def yU(l:κ):Nat->Nat->Int->Nat->Option (List zk)
 |0,_,_,_=>Z []
 |n+1,b,d,i=>
  if i<l.j then
   if ((gB l i).v == [40]) then yU l n b (d+1) (i+1)
   else if ((gB l i).v == [41]) then yU l n b (d-1) (i+1)
   else if ((gB l i).v == [44])=false∨0<d then yU l n b d (i+1)
   else match kj ((l.drop b).G (i-b)) false with
    |none=>Y
    |some a=>(yU l n (i+1) d (i+1)).w (a::·)
  else match kj ((l.drop b).G (i-b)) false with
   |none=>Y
   |some a=>Z [a]
def s40{x:Λ}(h:(x.v == [40])=true):(x.v == [41])=false/\(x.v == [44])=false:=by rw[beq_iff_eq] at h;rw[h];exact⟨rfl,rfl⟩
def s41{x:Λ}(h:(x.v == [41])=true):(x.v == [40])=false/\(x.v == [44])=false:=by rw[beq_iff_eq] at h;rw[h];exact⟨rfl,rfl⟩
def uc:κ->Nat
 |[]=>0
 |x::r=>if (x.v == [58,45]) then 0 else uc r+1
def D4:∀l,uc l<=l.j
 |[]=>ze _
 |x::r=>by have:=D4 r;unfold uc;split<;>simp<;>omega
def Ku{j:Nat}(a:j<l.j)(h:((gB l j).v == [58,45])=false):uc (l.drop j)=uc (l.drop (j+1))+1:=by
 rw[yK a,uc,xK a,h];rfl
def RD{j:Nat}(a:j<l.j)(h:((gB l j).v == [58,45])=true):uc (l.drop j)=0:=by
 rw[yK a,uc,xK a,h];rfl
def kR(l:κ):Option zd:=
 match kj (l.G (uc l)) true with
 |none=>Y
 |some h=>if uc l=l.j then Z ⟨h,[]⟩ else
  match yU (l.drop (uc l+1)) ((l.drop (uc l+1)).j+1) 0 0 0 with
  |none=>Y
  |some b=>Z ⟨h,b⟩
def jq(l:κ):Nat->Nat->Nat->Option (List zd)
 |0,a,_=>if a=l.j then Z [] else Y
 |n+1,a,i=>
  if ((gB l i).v == [46]) then
   match kR ((l.drop a).G (i-a)) with
   |none=>Y
   |some c=>(jq l n (i+1) (i+1)).w (c::·)
  else jq l n a (i+1)
def vS(l:κ):Option (List zd):=jq l l.j 0 0
end
def mM(s:Λ)(i:Nat):(s.extract i s.q).q=s.q-i:=by simp[l_]
def Cn(s:Λ)(i j k:Nat)(c:j<=s.q)(b:i+k<j):UC (s.extract i j) k=UC s (i+k):=by
 have a:k<(s.extract i j).q:=by rw[l_];omega
 rw[qK a,qK (by omega:i+k<s.q)];simp[ByteArray.getElem_extract]
def tY(s:Λ)(i k:Nat):UC (s.extract i s.q) k=UC s (i+k):=by
 by_cases h:i+k<s.q;exact Cn s i s.q k (ze _) h;rw[pR h,pR (by rw[mM];omega)]
def E6(p:Int->Bool)(s:Λ)(i:Nat):∀(n j:Nat),s.q-i-j<=n->yN p (s.extract i s.q) j+i=yN p s (i+j):=by
 intro n;induction n with
 |zero=>intro j b;rw[fS (by rw[mM];omega),fS η];omega
 |succ n c=>
  intro j b;by_cases h:i+j<s.q;cases a:p (UC s (i+j));rw[p6 (by rw[tY];exact a),p6 a];omega;rw[np (by rw[mM];omega) (by rw[tY];exact a),np h a,c (j+1) η];rfl;rw[fS (by rw[mM];omega),fS h];omega
def MW(s:Λ)(i:Nat)(k:Int):y7 (s.extract i s.q) 0 k+i=y7 s i k:=by
 unfold y7;have a:=E6 Ve s i _ 0 (ze _);have b:=E6 yY s i _ 0 (ze _);simp only[vB] at a b;repeat' split
 all_goals omega
def Kw(s:Λ)(i:Nat):xB (s.extract i s.q)+i=y7 s i (xy (UC s i) (UC s (i+1))):=by
 unfold xB;rw[tY,tY,MW];rfl
def Az(s:Λ)(i a b x y:Nat)(c:i+a=x)(d:min (i+b) s.q=y):(s.extract i s.q).extract a b=s.extract x y:=by
 rw[ByteArray.extract_extract,c,d]
def SC(s:Λ)(i:Nat):y7 s i 0=i:=by simp[y7]
def Lr(s:Λ):∀(n i:Nat),i<=s.q->s.q-i<=n->xC n (s.extract i s.q)=(UJ n s i).w (·.w P_):=by
 intro n;induction n with
 |zero=>intro i p o;rw[B6 (by rw[mM];omega),sH η];rfl
 |succ n j=>
  intro i p o;by_cases h:i<s.q;have e:0<(s.extract i s.q).q:=by rw[mM];omega
  have a:=tY s i 0;cases b:qU (UC s i);have f:=Kw s i;generalize d:xy (UC s i) (UC s (i+1))=k at f;by_cases c:k=0;subst c;rw[SC] at f;rw[Ce e (by rw[a];exact b) (zh η),eX h b d];rfl;have q:=wH s i k h d c;by_cases g:6<y7 s i k-i;rw[Ce e (by rw[a];exact b) (zg η),ek h b d g];rfl;rw[EY e (by rw[a];exact b) η η,eb h b d c g];have m:(s.extract i s.q).extract 0 (xB (s.extract i s.q))=s.extract i (y7 s i k):=Az s i _ _ _ _ rfl η;have l:(s.extract i s.q).extract (xB (s.extract i s.q)) (s.extract i s.q).q=s.extract (y7 s i k) s.q:=Az s i _ _ _ _ η (by rw[mM];omega);rw[m,l,j _ η η,O_,O_];rfl;rw[Hy e (by rw[a];exact b),ed h b,←j (i+1) η η,Az s i 1 _ (i+1) s.q rfl (by rw[mM];omega)];rw[B6 (by rw[mM];omega),sH h];rfl
def sU(s:Λ):xC s.q s=(UG s).w (·.w P_):=by
 have h:=Lr s s.q 0 η η;rwa [show s.extract 0 s.q=s by simp] at h
section
variable {t:ByteArray}
def BB(t:Λ)(i:Nat):UC t i=((t.v[i]?.w λb=>(b.D:Int)).d 0):=by
 rw[ku];by_cases h:i<t.q;rw[qK h,yn (by simpa using h)];rfl;rw[pR h,d8 (by simpa using h)];rfl
def Bh(t:Λ):t.v.j=t.q:=by rw[ku];simp
def NL(h:t.q=1)(c:UInt8):(t.v == [c])=(UC t 0 == (c.D:Int)):=by
 have b:=(Bh t).A h;rw[BB];revert b
 generalize t.v=l;intro b;match l,b with
 |[a],_=>
  by_cases d:a=c;subst d;simp;have:a.D≠c.D:=λh=>d (UInt8.toNat_inj.1 h);rw[show([a] == [c])=false by simpa using d];simp;omega
def M4{c:UInt8}{r:List UInt8}(h:UC t 0≠(c.D:Int)):(t.v == c::r)=false:=by
 rw[beq_eq_false_iff_ne];intro a;apply h;rw[BB,a];rfl
structure lL (x:UA):Prop where
 n:(x.1 == 1)=xg (UC x.2 0)
 t:VE x.1=Ve (UC x.2 0)
 k4:(x.1 == 4)=(x.2.v == [40])
 k5:(x.1 == 5)=(x.2.v == [41])
 k6:(x.1 == 6)=(x.2.v == [44])
 k7:(x.1 == 7)=(x.2.v == [46])
 k8:(x.1 == 8)=(x.2.v == [33])
 k9:(x.1 == 9)=(x.2.v == [58,45])
def S1(h:Ve (UC t 0)=true)(c:UInt8)(a:Ve (c.D:Int)=false)(r:List UInt8):(t.v == c::r)=false:=by
 apply M4;intro b;rw[b,a] at h;exact zC h ζ
def AZ{k:Int}(h:Ve (UC t 0)=true)(a:k=1∨k=2∨k=3)(b:(k == 1)=xg (UC t 0)):lL (k,t):=by
 refine⟨b,?_,?_,?_,?_,?_,?_,?_⟩;rw[h];rcases a with h|h|h<;>subst h<;>rfl
 all_goals
  show _=(t.v == _::_);rw[S1 h _ θ];rcases a with h|h|h<;>subst h<;>rfl
def Mt(h:t.q=2)(c:UC t 0=58)(d:UC t 1=45):lL (9,t):=by
 have e:t.v=[58,45]:=by
  have f:=(Bh t).A h;rw[BB] at c d;revert f c d
  generalize t.v=l;intro c d f;match l,f,c,d with
  |[a,b],_,c,d=>
   have c:(a.D:Int)=58:=c;have d:(b.D:Int)=45:=d;have i:a=58:=UInt8.toNat_inj.1 (by simpa using(by omega:a.D=58));have g:b=45:=UInt8.toNat_inj.1 (by simpa using(by omega:b.D=45));rw[i,g]
 constructor<;>(try rw[c])<;>(try (show _=(t.v == _);rw[e]))<;>rfl
def Qd{k c:Int}(e:t.q=1)(d:UC t 0=c)(a:fE c=k)(f:k≠0):lL (k,t):=by
 have b:c=40∨c=41∨c=44∨c=46∨c=33:=by unfold fE at a;(repeat' split at a)<;>omega
 have g:(t.v == [58,45])=false:=by
  rw[beq_eq_false_iff_ne];intro i;have:=Bh t;rw[i,e] at this;simp at this
 constructor
 case n=>show _=xg (UC t 0);rw[d];rcases b with h|h|h|h|h<;>subst h<;>subst a<;>rfl
 case t=>show _=Ve (UC t 0);rw[d];rcases b with h|h|h|h|h<;>subst h<;>subst a<;>rfl
 case k9=>show _=(t.v == _);rw[g];rcases b with h|h|h|h|h<;>subst h<;>subst a<;>rfl
 all_goals
  show _=(t.v == _);rw[NL e,d];rcases b with h|h|h|h|h<;>subst h<;>subst a<;>rfl
def Ke(s:Λ)(i:Nat)(k:Int)(h:i<s.q)(b:xy (UC s i) (UC s (i+1))=k)(d:k≠0):lL (k,s.extract i (y7 s i k))/\0<(s.extract i (y7 s i k)).q:=by
 have j:=wH s i k h b d;have g:(s.extract i (y7 s i k)).q=y7 s i k-i:=by rw[l_];omega
 refine⟨?_,η⟩;have a:UC (s.extract i (y7 s i k)) 0=UC s i:=Cn s i _ 0 j.2 η;have f:=fun(m:i+1<y7 s i k)=>Cn s i _ 1 j.2 m;unfold xy at b;split at b;rename_i c;subst b;exact AZ (by rw[a];simp[Ve,c]) (zh rfl) (by rw[a,c];rfl);rename_i e;split at b;rename_i c;subst b;exact AZ (by rw[a];simp[Ve,c]) (zg (zh rfl)) (by rw[a];simp[e]);rename_i l;split at b;rename_i c;subst b;exact AZ (by rw[a];simp[Ve,c]) (zg (zg rfl)) (by rw[a];simp[e]);split at b;rename_i n c;subst b;have o:y7 s i 9=i+2:=by simp[y7]
 exact Mt (by rw[g,o];omega) (by rw[a];exact c.1) (by rw[f η];exact c.2);have p:y7 s i k=i+1:=by
  have q:k≠9/\k≠1/\k≠2/\k≠3:=by subst b;unfold fE;(repeat' split)<;>simp
  simp[y7,d,q]
 exact Qd (by rw[g,p];omega) a b d
def OS(s:Λ):∀(n i:Nat) (l:Δ),UJ n s i=Z l->∀x∈l,lL x/\0<x.2.q:=by
 intro n;induction n with
 |zero=>intro i l h;simp[UJ] at h;subst h;simp
 |succ n g=>
  intro i l h;by_cases b:i<s.q;cases d:qU (UC s i);generalize c:xy (UC s i) (UC s (i+1))=k;by_cases a:k=0;subst a;rw[eX b d c] at h;exact zC h ζ;by_cases f:6<y7 s i k-i;rw[ek b d c f] at h;exact zC h ζ;rw[eb b d c a f] at h;obtain⟨r,j,rfl⟩:=qG.1 h;intro x e;rcases z7.1 e with rfl|e;exact Ke s i k b c a;exact g _ _ j x e;rw[ed b d] at h;exact g _ _ h;rw[sH b] at h;simp at h;subst h;simp
def sG{s:Λ}{l:Δ}(h:UG s=Z l):∀x∈l,lL x/\0<x.2.q:=OS s _ _ l h
end
section
variable {r p r2:List UA}
inductive l8:κ->List UA->Prop
 |one {x:UA}:VE x.1=true->l8 [x.2] [x]
 |more {x c:UA} {ts:κ} {r:List UA}:VE x.1=true->c.1=6->l8 ts r->l8 (x.2::ts) (x::c::r)
inductive ju:zk->List UA->Prop
 |bare {n:UA}:n.1=1->ju ⟨false,n.2,[]⟩ [n]
 |k {n o c:UA} {ts:κ} {p:List UA}:n.1=1->o.1=4->l8 ts p->c.1=5->ju ⟨false,n.2,ts⟩ (n::o::(p++[c]))
inductive dK:zk->List UA->Prop
 |qc {a:zk} {p:List UA}:ju a p->dK a p
 |i {a:zk} {n:UA} {p:List UA}:n.1=8->ju a p->dK {a with i:=true} (n::p)
inductive dP:List zk->List UA->Prop
 |one {a:zk} {p:List UA}:dK a p->dP [a] p
 |more {a:zk} {p q:List UA} {c:UA} {b:List zk}:dK a p->c.1=6->dP b q->dP (a::b) (p++c::q)
inductive lF:zd->List UA->Prop
 |fact {a:zk} {p:List UA}:ju a p->lF ⟨a,[]⟩ p
 |p {a:zk} {b:List zk} {p q:List UA} {i:UA}:ju a p->i.1=9->dP b q->lF ⟨a,b⟩ (p++i::q)
inductive ly:List zd->List UA->Prop
 |nil:ly [] []
 |cons {c:zd} {cs:List zd} {p q:List UA} {d:UA}:lF c p->d.1=7->ly cs q->ly (c::cs) (p++d::q)
def nN{k:Int}(a:k≠0)(h:US r=k):∃x t,r=x::t/\x.1=k:=by
 rcases r with _|⟨x,t⟩;exact zC h.z a;exact⟨x,t,rfl,h⟩
def Hl:∀(r:Δ) {ts:List Λ} {r2:Δ},y5 r=Z (ts,r2)->∃p,r=p++r2/\l8 ts p
 |[],_,_,h=>by simp[y5] at h
 |[x],ts,r2,h=>by
  cases a:VE x.1 with
  |false=>simp[y5,a] at h
  |true=>simp[y5,a] at h;obtain⟨rfl,rfl⟩:=h;exact⟨[x],rfl,.one a⟩
 |x::y::r,ts,r2,h=>by
  cases a:VE x.1 with
  |false=>simp[y5,a] at h
  |true=>
   by_cases b:y.1=6
   .simp only[y5,a,b,if_true] at h;obtain⟨⟨f,g⟩,d,c⟩:=qG.1 h;simp at c;obtain⟨rfl,rfl⟩:=c;obtain⟨p,rfl,e⟩:=Hl r d;exact⟨x::y::p,rfl,.more a b e⟩
   .simp[y5,a,b] at h;obtain⟨rfl,rfl⟩:=h;exact⟨[x],rfl,.one a⟩
def Q6{ts:List Λ}(h:l8 ts p)(c:US r2≠6):y5 (p++r2)=Z (ts,r2):=by
 induction h with
 |one a=>exact IG a c
 |more a b _ d=>simp only[dM,y5,a,b,if_true];rw[d];rfl
def BQ{a:zk}(h:x6 r=Z (a,r2)):∃p,r=p++r2/\ju a p:=by
 unfold x6 at h;split at h;rename_i f;obtain⟨n,t,rfl,e⟩:=nN θ f;by_cases d:US t=4;rw[zb (show US (n::t).tail=4 from d)] at h;obtain⟨o,t,rfl,g⟩:=nN θ d;split at h;exact zC h ζ;rename_i l m b;split at h;rename_i i;obtain⟨p,rfl,j⟩:=Hl _ b;obtain⟨c,t,rfl,k⟩:=nN θ i;simp at h;obtain⟨rfl,rfl⟩:=h;exact⟨n::o::(p++[c]),ζ,.k e g j k⟩;exact zC h ζ;rw[za (show ¬US (n::t).tail=4 from d)] at h;simp at h;obtain⟨rfl,rfl⟩:=h;exact⟨[n],rfl,.bare e⟩;exact zC h ζ
def ig{a:zk}(h:ju a p)(f:US r2≠4):x6 (p++r2)=Z (a,r2):=by
 cases h with
 |bare b=>simp[x6,US,b];intro h;exact zC h f
 |k b g i d=>
  rename_i n o c j p;have e:(n::o::(p++[c]))++r2=n::o::(p++(c::r2)):=ζ;rw[e];simp only[x6,US,b,g,if_true,nc,N_];rw[Q6 i (by simp[US,d])];simp[d]
def ju.hd{a:zk}(h:ju a p)(r:Δ):US (p++r)=1:=by cases h<;>assumption
def ju.len{a:zk}(h:ju a p):0<p.j:=by cases h<;>simp
def QS{a:zk}(h:vm r=Z (a,r2)):∃p,r=p++r2/\dK a p:=by
 unfold vm at h;split at h;rename_i f;obtain⟨n,t,rfl,g⟩:=nN θ f;obtain⟨⟨j,i⟩,e,d⟩:=qG.1 h;simp at d;obtain⟨rfl,rfl⟩:=d;obtain⟨p,b,c⟩:=BQ e;simp only[nc] at b;subst b;exact⟨n::p,rfl,.i g c⟩;obtain⟨p,b,c⟩:=BQ h;exact⟨p,b,.qc c⟩
def Hx{a:zk}(h:dK a p)(c:US r2≠4):vm (p++r2)=Z (a,r2):=by
 cases h with
 |qc b=>unfold vm;rw[b.hd,ig b c];rfl
 |i d b=>simp only[vm,dM,US,d,if_true,nc];rw[ig b c];rfl
def dK.len{a:zk}{p:Δ}(h:dK a p):0<p.j:=by cases h with
 |qc h=>exact h.len
 |i _ h=>simp
def NU:∀{n:Nat} {r r2:Δ} {b:Ω},un n r=Z (b,r2)->∃p,r=p++r2/\dP b p:=by
 intro n;induction n with
 |zero=>intro r r2 b h;simp[un] at h
 |succ n m=>
  intro r r2 b h;rcases d:vm r with _|z;rw[tK d] at h;exact zC h ζ;obtain⟨a,o⟩:=z;obtain⟨p,rfl,i⟩:=QS d;by_cases e:US o=6;rw[rJ d e] at h;obtain⟨⟨u,s⟩,j,g⟩:=qG.1 h;simp at g;obtain⟨rfl,rfl⟩:=g;obtain⟨c,t,rfl,l⟩:=nN θ e;obtain⟨q,f,k⟩:=m j;simp only[nc] at f;subst f;exact⟨p++c::q,ζ,.more i l k⟩;rw[sI d e] at h;simp at h;obtain⟨rfl,rfl⟩:=h;exact⟨p,rfl,.one i⟩
def QI{b:Ω}(h:dP b p)(j:US r2≠4)(i:US r2≠6):∀n,p.j<=n->un n (p++r2)=Z (b,r2):=by
 induction h with
 |one d=>
  intro n f;have:=d.len;obtain⟨m,rfl⟩:∃m,n=m+1:=⟨n-1,η⟩;rw[sI (Hx d j) i]
 |more d g _ k=>
  rename_i a p q c b _;intro n f;simp only[yB,xp] at f;obtain⟨m,rfl⟩:∃m,n=m+1:=⟨n-1,η⟩;have e:(p++c::q)++r2=p++(c::(q++r2)):=ζ;have l:=Hx d (r2:=c::(q++r2)) (by simp[US,g]);rw[e,rJ l g,nc,k m η];rfl
def OM{n:Nat}{c:zd}(h:vJ n r=Z (c,r2)):∃p d,r=p++d::r2/\d.1=7/\lF c p:=by
 unfold vJ at h;split at h;exact zC h ζ;rename_i a s j;obtain⟨p,rfl,k⟩:=BQ j;split at h;rename_i m;obtain⟨i,t,rfl,o⟩:=nN θ m;split at h;exact zC h ζ;rename_i b u g;obtain⟨q,rfl,l⟩:=NU g;split at h;rename_i f;obtain⟨d,t,rfl,e⟩:=nN θ f;simp at h;obtain⟨rfl,rfl⟩:=h;exact⟨p++i::q,d,ζ,e,.p k o l⟩;exact zC h ζ;split at h;rename_i f;obtain⟨d,t,rfl,e⟩:=nN θ f;simp at h;obtain⟨rfl,rfl⟩:=h;exact⟨p,d,rfl,e,.fact k⟩;exact zC h ζ
def O6{c:zd}(h:lF c p){d:UA}(f:d.1=7)(r2:Δ)(n:Nat)(l:p.j<=n):vJ n (p++d::r2)=Z (c,r2):=by
 cases h with
 |fact g=>
  unfold vJ;rw[ig g (by simp[US,f])];simp[US,f]
 |p g j k=>
  rename_i a b p q i;simp only[yB,xp] at l;have e:(p++i::q)++d::r2=p++(i::(q++d::r2)):=ζ;unfold vJ;rw[e,ig g (by simp[US,j])];simp only[US,j,if_true,nc];rw[QI k (by simp[US,f]) (by simp[US,f]) n η];simp[f]
def lF.len{c:zd}{p:Δ}(h:lF c p):0<p.j:=by cases h with
 |fact h=>exact h.len
 |p h=>simp;omega
def Jc{n:Nat}:∀(m:Nat) {r:Δ} {cs:Ξ},yW n m r=Z cs->ly cs r:=by
 intro m;induction m with
 |zero=>
  intro r cs h;rcases r with _|⟨x,r⟩;simp[yW] at h;subst h;exact .nil;simp[yW] at h
 |succ m i=>
  intro r cs h;rcases r with _|⟨x,r⟩;simp[yW] at h;subst h;exact .nil;rcases a:vJ n (x::r) with _|z;rw[i7 ζ a] at h;exact zC h ζ;rw[tR ζ a] at h;obtain⟨f,c,rfl⟩:=qG.1 h;obtain⟨p,d,e,b,g⟩:=OM a;rw[e];exact .cons g b (i c)
def NR{n:Nat}{cs:Ξ}(h:ly cs r):∀m,r.j<=m->r.j<=n->yW n m r=Z cs:=by
 induction h with
 |nil=>intro m _ _;cases m<;>rfl
 |cons a b _ e=>
  intro m c d;have:=a.len;simp only[yB,xp] at c d;obtain⟨k,rfl⟩:∃k,m=k+1:=⟨m-1,η⟩;rw[tR ζ (O6 a b _ n η),e k η η];rfl
def So(l:Δ)(cs:Ξ):yW l.j l.j l=Z cs↔ly cs l:=
 ⟨Jc _,λh=>NR h _ (ze _) (ze _)⟩
end
section
variable {p:List UA}
def uu(l:List UA):Prop:=∀x∈l,lL x
def zZ(l:List UA):κ:=l.w P_
def tk(l:List UA)(i:Nat):UA:=l.d i (0,g_)
def SF:lL (0,g_):=by constructor<;>first|rfl|(show _=(ByteArray.empty.toList == _);rw[ku];rfl)
def uu.tk{l:Δ}(h:uu l)(i:Nat):lL (tk l i):=by
 unfold Go.Proofs.YteampbddflhngaaGreat.tk;by_cases a:i<l.j;rw[kZ,yn a];exact h _ (zr a);rw[kZ,d8 η];exact SF
def fq(l:Δ)(i:Nat):gB (zZ l) i=(tk l i).2:=by
 unfold gB zZ tk;by_cases a:i<l.j;simp[k_,a];simp[k_,a]
def g7(l:Δ):(zZ l).j=l.j:=by simp[zZ]
def uu.G{l:Δ}(h:uu l)(n:Nat):uu (l.G n):=λx a=>h x (gZ a)
def uu.drop{l:Δ}(h:uu l)(n:Nat):uu (l.drop n):=λx a=>h x (fw a)
def jy{k c:Int}{b:Bool}(h:(k == c)=b):b=true↔k=c:=by subst h;simp
def Vt{α:Type}:List α->List α
 |[]=>[]
 |[x]=>[x]
 |x::_::r=>x::Vt r
def E1{α:Type}(y:α):∀x:List α,Vt (x++[y])=Vt x++(if x.j%2=0 then [y] else [])
 |[]=>rfl
 |[a]=>rfl
 |a::b::r=>by
  have:=E1 y r;have c:(a::b::r).j%2=r.j%2:=by simp only[xp];omega
  rw[c];simp only[dM,Vt,this]
def FO(l:List Λ):∀m,m<=l.j->vw l m=Vt ((l.drop 2).G (m-2))
 |0,_=>by simp[vw,Vt]
 |m+1,h=>by
  rw[vw,FO l m η];by_cases a:2<=m
  .have e:(l.drop 2).G (m+1-2)=(l.drop 2).G (m-2)++[gB l m]:=by
    rw[show m+1-2=(m-2)+1 by omega,List.take_add_one];congr 1;rw[List.getElem?_drop,show 2+(m-2)=m by omega,yn η,xK η];rfl
   rw[e,E1];congr 1;have b:((l.drop 2).G (m-2)).j=m-2:=by simp;omega
   rw[b];simp only[a,true_and];rw[show(m-2)%2=m%2 by omega]
  .rw[show m+1-2=0 by omega,show m-2=0 by omega];simp[Vt,a]
def Dq(l:List Λ):∀m,qP l m=true↔∀i,2<=i->i<m->W7 l i=true
 |0=>by simp[qP]
 |m+1=>by
  have f:=Dq l m;simp only[qP,uK,ld,decide_eq_true_eq,f];constructor
  .rintro⟨c,a⟩ i b d;by_cases e:i=m
   .subst e;rcases a with a|a
    .omega
    .exact a
   .exact c i b η
  .intro h;refine⟨λi b d=>h i b η,?_⟩;by_cases a:m<2
   .exact zh a
   .exact zg (h m η η)
def Xd(q:List UA):Prop:=q.j%2=1/\∀i,i<q.j->if i%2=0 then VE (tk q i).1=true else(tk q i).1=6
def fD(x:UA)(l:Δ)(i:Nat):tk (x::l) (i+1)=tk l i:=by simp[tk]
def lA(x:UA)(l:Δ):tk (x::l) 0=x:=by simp[tk]
def Pz{ts:List Λ}{q:Δ}(h:l8 ts q):Xd q/\ts=Vt (zZ q):=by
 induction h with
 |one b=>exact⟨⟨rfl,λi a=>by simp at a;subst a;simpa [lA] using b⟩,rfl⟩
 |more b e _ f=>
  obtain⟨⟨g,d⟩,c⟩:=f;refine⟨⟨by simp only[xp];omega,λi a=>?_⟩,by rw[c];rfl⟩;match i with
  |0=>simpa [lA] using b
  |1=>simpa [fD,lA] using e
  |i+2=>
   have:=d i (by simp only[xp] at a;omega);rw[fD,fD,show(i+2)%2=i%2 by omega];exact this
def EH:∀(q:Δ),Xd q->l8 (Vt (zZ q)) q
 |[],h=>by have:=h.1;simp at this
 |[x],h=>by have:=h.2 0 ζ;simp[lA] at this;exact .one this
 |x::y::r,h=>by
  have b:=h.2 0 ζ;have a:=h.2 1 ζ;simp[lA] at b;simp[fD,lA] at a;refine .more b a (EH r ⟨by have:=h.1;simp only[xp] at this;omega,λi c=>?_⟩);have:=h.2 (i+2) (by simp only[xp];omega);rw[fD,fD,show(i+2)%2=i%2 by omega] at this;exact this
def JQ{r:Δ}{i:Nat}(h:i<p.j):tk (p++r) i=tk p i:=by
 simp[tk,k_,List.getElem?_append_left h]
def RG{r:Δ}{c:UA}:tk (p++c::r) p.j=c:=by simp[tk,k_]
def Rl{neg:Bool}{n o c:UA}{q:Δ}(h:uu (n::o::(q++[c])))(a:zk):
  x9 neg (zZ (n::o::(q++[c])))=Z a↔n.1=1/\o.1=4/\c.1=5/\Xd q/\a=⟨neg,n.2,Vt (zZ q)⟩:=by
 have v:=jy (h n ζ).n;have u:=jy (h o ζ).k4;have t:=jy (h c ζ).k5;have w:gB (zZ (n::o::(q++[c]))) 0=n.2:=by rw[fq,lA]
 have E:gB (zZ (n::o::(q++[c]))) 1=o.2:=by rw[fq,fD,lA]
 have A:(zZ (n::o::(q++[c]))).j=q.j+3:=by rw[g7];simp
 have y:gB (zZ (n::o::(q++[c]))) (q.j+2)=c.2:=by rw[fq,fD,fD,RG]
 have m:qP (zZ (n::o::(q++[c]))) (q.j+2)=true↔∀i,i<q.j->if i%2=0 then VE (tk q i).1=true else(tk q i).1=6:=by
  have f:∀i,i<q.j->(W7 (zZ (n::o::(q++[c]))) (i+2)=true↔if i%2=0 then VE (tk q i).1=true else(tk q i).1=6):=by
   intro i k;have r:lL (tk q i):=uu.tk (λx C=>h x (by simp[C])) i;unfold W7;rw[fq,fD,fD,JQ k,show(i+2)%2=i%2 by omega];split;rw[r.t];exact jy r.k6
  rw[Dq];constructor;intro l i k;exact(f i k).1 (l (i+2) η η);intro l i F k;have:=(f (i-2) η).2 (l (i-2) η);rwa [show i-2+2=i by omega] at this
 have b:vw (zZ (n::o::(q++[c]))) (q.j+2)=Vt (zZ q):=by
  rw[FO _ _ η];simp[zZ]
 unfold x9;rw[A,w,E,show q.j+3-1=q.j+2 by omega,y,b];rw[za η];by_cases j:n.1=1;rw[za (by rw[v.2 j];simp),za η];by_cases d:q.j+3<4∨(q.j+3)%2=1∨(o.2.v == [40])=false∨(c.2.v == [41])=false;rw[zb d];simp only[reduceCtorEq,false_iff];rintro⟨-,z,B,D,-⟩;rw[u.2 z,t.2 B] at d;have:=D.1;simp at d;omega;rw[za d];simp only[not_or,wQ] at d;have s:Xd q↔qP (zZ (n::o::(q++[c]))) (q.j+2)=true:=by
  rw[m];exact⟨λh=>h.2,λh=>⟨η,h⟩⟩
 by_cases g:qP (zZ (n::o::(q++[c]))) (q.j+2)=true;rw[zb g];simp only[zt];exact⟨λe=>⟨j,u.1 d.2.2.1,t.1 d.2.2.2,s.2 g,e.z⟩,λe=>e.2.2.2.2.z⟩;rw[za g];simp only[reduceCtorEq,false_iff];exact λe=>g (s.1 e.2.2.2.1);have:xg (UC n.2 0)=false:=by rw[←rV];exact λe=>j (v.1 e)
 rw[zb this];simp only[reduceCtorEq,false_iff];exact λe=>j e.1
def ic{neg:Bool}(h:uu p)(a:zk):x9 neg (zZ p)=Z a↔∃f,ju f p/\a={f with i:=neg}:=by
 match p,h with
 |[],_=>
  simp only[x9,zZ,List.map_nil,jD,if_true,reduceCtorEq,false_iff];rintro⟨f,b,-⟩;cases b
 |[n],h=>
  have s:=jy (h n ζ).n;have t:gB (zZ [n]) 0=n.2:=by rw[fq,lA]
  unfold x9;rw[g7,t];constructor;intro e;cases g:xg (UC n.2 0);simp[g] at e;simp[g] at e;exact⟨_,.bare (s.1 g),e.z⟩;rintro⟨f,b,rfl⟩;cases b with
  |bare j=>simp[s.2 j]
 |n::o::r,h=>
  rcases oj r with rfl|⟨q,c,rfl⟩;constructor;intro e;unfold x9 at e;rw[g7] at e;simp at e;rintro⟨f,b,rfl⟩;generalize d:[n,o]=p at b;cases b with
  |bare=>simp at d
  |k=>simp at d
  rw[ii] at h ⊢;rw[Rl h];constructor;rintro⟨i,k,l,m,rfl⟩;exact⟨_,.k i k (EH q m) l,rfl⟩;rintro⟨f,b,rfl⟩;generalize d:n::o::(q++[c])=p at b;cases b with
  |bare=>simp at d
  |k i k u l=>
   simp only[m8] at d;obtain⟨rfl,rfl,d⟩:=d;have:=rB d rfl;simp only[m8,and_true] at this;obtain⟨rfl,rfl⟩:=this;obtain⟨m,rfl⟩:=Pz u;exact⟨i,k,l,m,rfl⟩
def ju.qc{a:zk}(h:ju a p):{a with i:=false}=a:=by cases h<;>rfl
def BZ(h:uu p)(a:zk):kj (zZ p) true=Z a↔ju a p:=by
 have c:Vo (zZ p) true=false:=by simp[Vo]
 unfold kj;rw[c,za ζ,ic h];exact⟨fun⟨d,b,e⟩=>by rw[e,b.qc];exact b,λb=>⟨a,b,b.qc.z⟩⟩
def eW(h:uu p)(a:zk):kj (zZ p) false=Z a↔dK a p:=by
 rcases p with _|⟨n,r⟩;have l:Vo (zZ []) false=false:=rfl;unfold kj;rw[l,za ζ,ic h];constructor;rintro⟨j,b,-⟩;cases b;intro c;cases c with
 |qc b=>cases b
 have d:=jy (h n ζ).k8;have i:Vo (zZ (n::r)) false=(n.2.v == [33]):=by
  unfold Vo;rw[fq,lA,g7];simp
 unfold kj;rw[i];cases g:(n.2.v == [33]);have f:n.1≠8:=λe=>by rw[d.2 e] at g;exact zC g ζ
 rw[za ζ,ic h];constructor;rintro⟨j,b,rfl⟩;rw[b.qc];exact .qc b;intro c;cases c with
 |qc b=>exact⟨_,b,b.qc.z⟩
 |i d _=>exact zC d f
 have f:=d.1 g;rw[zb rfl,show(zZ (n::r)).tail=zZ r from rfl,ic (show uu r from λx k=>h x (by simp[k]))];constructor;rintro⟨j,b,rfl⟩;exact .i f b;intro c;cases c with
 |qc b=>have:=b.hd [];simp[US,f] at this
 |i _ b=>exact⟨_,b,rfl⟩
end
section
variable {l r p:List UA}
def AW{f i:Nat}(b:f<=i)(a:i<l.j):l.drop f=(l.drop f).G (i-f)++l[i]::l.drop (i+1):=by
 have e:(l.drop f).drop (i-f)=l[i]::l.drop (i+1):=by
  rw[G_,show f+(i-f)=i by omega,yK a]
 rw[←e,jF]
def rM(l:Δ)(f k:Nat):((zZ l).drop f).G k=zZ ((l.drop f).G k):=by simp[zZ,List.map_take,J_]
def tV{i:Nat}(h:i<l.j):tk l i=l[i]:=by simp[tk,k_,h]
def e9{i:Nat}{x:UA}(h:l.drop i=x::r):tk l i=x/\i<l.j/\l.drop (i+1)=r:=by
 have a:i<l.j:=by
  false_or_by_contra;rename_i b
  rw[uk η] at h;exact zC h ζ
 rw[yK a] at h;simp only[m8] at h;exact⟨by rw[tV a];exact h.1,a,h.2⟩
def P8(h:uu l):∀(n f i:Nat) (d:Int) (b:Ω),f<=i->i+n=l.j+1->yU (zZ l) n f d i=Z b->dP b (l.drop f)∨(n=0/\b=[]):=by
 intro n;induction n with
 |zero=>intro f i d b _ _ e;simp[yU] at e;exact zg ⟨rfl,e⟩
 |succ n x=>
  intro f i d b w z e;left;have step:∀{j o k},j<=i+1->i<l.j->yU (zZ l) n j o (i+1)=Z k->dP k (l.drop j):=by
   intro j o k u y v;rcases x j (i+1) o k u η v with m|⟨rfl,-⟩
   exact m;omega
  unfold yU at e;rw[g7] at e;by_cases c:i<l.j;rw[zb c] at e;split at e;exact step η c e;split at e;exact step η c e;split at e;exact step η c e;rename_i s;split at e;exact zC e ζ;rename_i a g;rw[rM,eW ((h.drop f).G _)] at g;obtain⟨k,t,rfl⟩:=qG.1 e;have m:=step (ze _) c t;rw[AW w c];refine .more g ?_ m;have q:=jy (h.tk i).k6;rw[tV c] at q;apply q.1;simp only[not_or,wQ] at s;have:=s.1;rwa [fq,tV c] at this;rw[za c] at e;split at e;exact zC e ζ;rename_i a g;rw[rM,eW ((h.drop f).G _)] at g;simp only[zt] at e;subst e;have:(l.drop f).G (i-f)=l.drop f:=yO υ;rw[this] at g;exact .one g
def dep:Int->List UA->Option Int
 |d,[]=>Z d
 |d,x::r=>if x.1=4 then dep (d+1) r else if x.1=5 then dep (d-1) r else if x.1≠6∨0<d then dep d r else Y
def ow:∀(p q:Δ) (d:Int),dep d (p++q)=(dep d p).bind λa=>dep a q
 |[],q,d=>rfl
 |x::p,q,d=>by
  simp only[dM,dep];split
  .exact ow p q _
  .split
   .exact ow p q _
   .split
    .exact ow p q _
    .rfl
def Sd{ts:List Λ}(h:l8 ts p){d:Int}(c:0<d):dep d p=Z d:=by
 have b:∀{x:UA},VE x.1=true->x.1≠4/\x.1≠5/\x.1≠6:=by
  intro x a;simp[VE] at a;omega
 induction h with
 |one a=>have:=b a;simp[dep,this]
 |more a e _ f=>have:=b a;simp[dep,this,e,c,f]
def Dw{a:zk}(h:ju a p):dep 0 p=Z 0:=by
 cases h with
 |bare b=>simp[dep,b]
 |k b e f c=>
  simp only[dep,b,e];simp only[ow,Sd f (d:=0+1) η];simp[dep,c]
def Hq{a:zk}(h:dK a p):dep 0 p=Z 0:=by
 cases h with
 |qc b=>exact Dw b
 |i c b=>simp[dep,c,Dw b]
def At{l:Δ}(h:uu l)(f:Nat):∀(p r:Δ) (d g:Int) (i n:Nat),l.drop i=p++r->dep d p=Z g->yU (zZ l) (n+p.j) f d i=yU (zZ l) n f g (i+p.j)
 |[],r,d,g,i,n,_,a=>by simp[dep] at a;subst a;rfl
 |x::p,r,d,g,i,n,v,a=>by
  obtain⟨q,w,t⟩:=e9 v;have j:=h.tk i;rw[q] at j;have o:=jy j.k4;have s:=jy j.k5;have u:=jy j.k6;have b:=λy=>At h f p r y g (i+1) n t;rw[show n+(x::p).j=(n+p.j)+1 by simp only[xp];omega,show i+(x::p).j=i+1+p.j by simp only[xp];omega];rw[yU,g7,zb w,fq,q];unfold dep at a;by_cases m:x.1=4
  .rw[zb (o.2 m)];rw[zb m] at a;exact b _ a
  .rw[za (λe=>m (o.1 e))];rw[za m] at a;by_cases k:x.1=5
   .rw[zb (s.2 k)];rw[zb k] at a;exact b _ a
   .rw[za (λe=>k (s.1 e))];rw[za k] at a;by_cases c:x.1≠6∨0<d
    .rw[zb c] at a;rw[zb (by
      rcases c with c|c
      .left;rw[←rV];exact λe=>c (u.1 e)
      .exact zg c)]
     exact b _ a
    .rw[za c] at a;exact zC a ζ
def VH{f:Nat}(a:l.drop f=p++r):(l.drop f).G (f+p.j-f)=p:=by
 rw[a,show f+p.j-f=p.j by omega];simp
def Ap{f:Nat}(a:l.drop f=p++r):l.drop (f+p.j)=r:=by
 rw[←G_,a];simp
def Kl(h:uu l){b:Ω}(u:dP b p):∀f,l.drop f=p->yU (zZ l) (p.j+1) f 0 f=Z b:=by
 induction u with
 |one j=>
  rename_i a p;intro f g;have d:l.drop f=p++[]:=by simpa using g
  rw[show p.j+1=1+p.j by omega,At h f p [] 0 0 f 1 d (Hq j),yU,g7];have m:=Ap d;rw[H_] at m;rw[za η,rM,VH d,(eW (by rw[←g];exact h.drop f) a).2 j]
 |more j A _ B=>
  rename_i a p q c b _;intro f g;have z:uu p:=λx s=>h x (fw (i:=f) (by rw[g];simp[s]));have m:=Ap g;obtain⟨n,w,y⟩:=e9 m;have k:=h.tk (f+p.j);rw[n] at k;have o:=jy k.k4;have t:=jy k.k5;have v:=jy k.k6;rw[show(p++c::q).j+1=(q.j+1+1)+p.j by simp;omega,At h f p (c::q) 0 0 f _ g (Hq j),yU,g7,zb w,fq,n,
   za (λe=>by have:=o.1 e;omega),za (λe=>by have:=t.1 e;omega),za (by rw[v.2 A];simp),rM,VH g,(eW z a).2 j]
  simp only;rw[B (f+p.j+1) y];rfl
def Fr(h:uu l)(b:Ω):yU (zZ l) ((zZ l).j+1) 0 0 0=Z b↔dP b l:=by
 rw[g7];constructor;intro e;rcases P8 h _ 0 0 0 b (ze _) η e with a|⟨c,-⟩
 simpa using a;omega;intro a;exact Kl h a 0 ζ
end
section
variable {k:Int}{p l:List UA}
def No(k:Int)(l:List UA):Prop:=∀x∈l,x.1≠k
def No.app{q:Δ}(h:No k p)(g:No k q):No k (p++q):=λx a=>(zW.1 a).elim (h x) (g x)
def No.cons{x:UA}{q:Δ}(h:x.1≠k)(g:No k q):No k (x::q):=λy a=>by
 rcases z7.1 a with rfl|a
 .exact h
 .exact g y a
def No.nil(k:Int):No k []:=λx a=>zC a ζ
def S2{ts:List Λ}(h:l8 ts p)(d:6<k):No k p:=by
 have b:∀{x:UA},VE x.1=true->x.1≠k:=by intro x a;simp[VE] at a;omega
 induction h with
 |one a=>exact .cons (b a) (.nil k)
 |more a e _ c=>exact .cons (b a) (.cons η c)
def sy{a:zk}(h:ju a p)(b:6<k):No k p:=by
 cases h with
 |bare c=>exact .cons η (.nil k)
 |k c e d f=>exact .cons η (.cons η (.app (S2 d b) (.cons η (.nil k))))
def G1{a:zk}(h:dK a p)(c:k=7∨k=9):No k p:=by
 cases h with
 |qc b=>exact sy b η
 |i d b=>exact .cons η (sy b η)
def SQ{b:Ω}(h:dP b p)(c:k=7∨k=9):No k p:=by
 induction h with
 |one a=>exact G1 a c
 |more a e _ d=>exact .app (G1 a c) (.cons η d)
def LW{c:zd}(h:lF c p):No 7 p:=by
 cases h with
 |fact a=>exact sy a η
 |p a d b=>exact .app (sy a η) (.cons η (SQ b (zh rfl)))
def AP:∀(p r:Δ),uu p->No 9 p->uc (zZ (p++r))=p.j+uc (zZ r)
 |[],r,_,_=>ζ
 |x::p,r,h,b=>by
  have c:=jy (h x ζ).k9;have d:(x.2.v == [58,45])=false:=by rw[←rV];exact λe=>b x ζ (c.1 e)
  show uc (x.2::zZ (p++r))=_;rw[uc,d,AP p r (λy a=>h y (by simp[a])) (λy a=>b y (by simp[a]))];simp only[xp];rw[za ζ];omega
def EW:∀(l:Δ),uu l->uc (zZ l)<l.j->(tk l (uc (zZ l))).1=9
 |[],_,h=>by simp at h
 |x::l,a,h=>by
  have c:=jy (a x ζ).k9;change uc (x.2::zZ l)<_ at h;show(tk (x::l) (uc (x.2::zZ l))).1=9;rw[uc] at h ⊢;cases b:(x.2.v == [58,45]) with
  |true=>rw[zb rfl,lA];exact c.1 b
  |false=>
   rw[b,za ζ] at h;rw[za ζ,fD];exact EW l (λy d=>a y (by simp[d])) (by simp only[xp] at h;omega)
def Il(l:Δ)(k:Nat):(zZ l).G k=zZ (l.G k):=by simp[zZ,List.map_take]
def E3(l:Δ)(k:Nat):(zZ l).drop k=zZ (l.drop k):=by simp[zZ,J_]
def Gm(h:uu l)(c:zd):kR (zZ l)=Z c↔lF c l:=by
 constructor;intro e;have o:=D4 (zZ l);rw[g7] at o;unfold kR at e;rw[Il,E3,g7] at e;split at e;exact zC e ζ;rename_i B g;rw[BZ (h.G _)] at g;split at e;rename_i t;simp only[zt] at e;subst e;rw[t,yO (ze _)] at g;exact .fact g;rename_i t;have d:uc (zZ l)<l.j:=η;split at e;exact zC e ζ;rename_i b s;rw[Fr (h.drop _)] at s;simp only[zt] at e;subst e;have m:=EW l h d;rw[tV d] at m;have j:=AW (l:=l) (zs (uc (zZ l))) d;rw[fA,Nat.sub_zero] at j;have y:=lF.p g m s;rwa [←j] at y;intro A;unfold kR;rw[Il,E3,g7];cases A with
 |fact f=>
  have r:uc (zZ l)=l.j:=by
   have:=AP l [] h (sy f η);simpa [zZ,uc] using this
  rw[r,yO (ze _),(BZ h _).2 f];simp
 |p f m w=>
  rename_i a b p q i;have u:uu p:=λx n=>h x (by simp[n]);have v:uu q:=λx n=>h x (by simp[n]);have r:uc (zZ (p++i::q))=p.j:=by
   rw[AP p (i::q) u (sy f η)];show p.j+uc (i.2::zZ q)=_;rw[uc,(jy (h i ζ).k9).2 m];rfl
  rw[r];have z:(p++i::q).G p.j=p:=ζ;have j:(p++i::q).drop (p.j+1)=q:=by rw[←G_];simp
  rw[z,j,(BZ u _).2 f,(Fr v _).2 w];simp only;rw[za ζ]
def RH(h:uu l):∀(n f i:Nat) (cs:Ξ),f<=i->i+n=l.j->jq (zZ l) n f i=Z cs->ly cs (l.drop f):=by
 intro n;induction n with
 |zero=>
  intro f i cs d r e;unfold jq at e;rw[g7] at e;split at e;rename_i s;simp only[zt] at e;subst e;rw[uk η];exact .nil;exact zC e ζ
 |succ n j=>
  intro f i cs d r e;have b:i<l.j:=η;unfold jq at e;rw[fq,tV b] at e;split at e;rename_i q;have m:=(jy (h l[i] (zr b)).k7).1 q;split at e;exact zC e ζ;rename_i c g;rw[rM,Gm ((h.drop f).G _)] at g;obtain⟨o,a,rfl⟩:=qG.1 e;rw[AW d b];exact .cons g m (j _ _ _ (ze _) η a);exact j _ _ _ η η e
def C3{l:Δ}(h:uu l)(f:Nat):∀(p r:Δ) (i n:Nat),l.drop i=p++r->No 7 p->jq (zZ l) (n+p.j) f i=jq (zZ l) n f (i+p.j)
 |[],r,i,n,_,_=>rfl
 |x::p,r,i,n,m,c=>by
  obtain⟨b,o,j⟩:=e9 m;have a:=h.tk i;rw[b] at a;have d:=jy a.k7;rw[show n+(x::p).j=(n+p.j)+1 by simp only[xp];omega,show i+(x::p).j=i+1+p.j by simp only[xp];omega];rw[jq,fq,b,za (λe=>c x ζ (d.1 e))];exact C3 h f p r (i+1) n j (λy g=>c y (by simp[g]))
def Mm(h:uu l){cs:Ξ}(n:ly cs p):∀f,f<=l.j->l.drop f=p->jq (zZ l) p.j f f=Z cs:=by
 induction n with
 |nil=>
  intro f r a;rw[H_] at a;rw[jD,jq,g7,zb η]
 |cons e j _ u=>
  rename_i c cs p q d _;intro f r a;have t:uu p:=λx m=>h x (fw (i:=f) (by rw[a];simp[m]));have o:=Ap a;obtain⟨g,v,s⟩:=e9 o;have b:=h.tk (f+p.j);rw[g] at b;rw[show(p++d::q).j=(q.j+1)+p.j by simp;omega,C3 h f p (d::q) f _ a (LW e),jq,fq,g,zb ((jy b.k7).2 j),rM,VH a,(Gm t c).2 e];simp only;rw[u (f+p.j+1) η s];rfl
def BX(h:uu l)(cs:Ξ):vS (zZ l)=Z cs↔ly cs l:=by
 unfold vS;rw[g7];constructor;intro e;have:=RH h _ 0 0 cs (ze _) η e;simpa using this;intro a;exact Mm h a 0 η ζ
def Jb(h:uu l):vS (zZ l)=yW l.j l.j l:=by
 apply Option.ext;intro a;show vS (zZ l)=Z a↔yW l.j l.j l=Z a;rw[BX h,So]
def By(s:Λ):(xC s.q s).bind vS=(UG s).bind λl=>yW l.j l.j l:=by
 rw[sU];rcases a:UG s with _|l;rfl;exact Jb λx b=>(sG a x b).1
end
structure gF (w:Nat) (n:qO):Prop where
 len:n.K.j=w
 dlen:n.down.j=w
 ge:∀i,i<w->i<=n.K.d i 0
 le:∀i,i<w->n.K.d i 0<=w
 fix:∀i,i<w->n.K.d i 0<w->n.K.d (n.K.d i 0) 0=n.K.d i 0
 seg:∀i j,i<w->i<=j->j<n.K.d i 0->n.K.d j 0=n.K.d i 0
def uW(l:Φ)(i j v d:Nat):(l.set i v).d j d=if i=j/\i<l.j then v else l.d j d:=by
 simp only[kZ,sS];by_cases h:i=j;subst h;by_cases a:i<l.j;simp[a];simp[a];simp[h]
def Hk(v:Nat):∀(n:Nat) (l:Φ),(kG v n l).j=l.j
 |0,l=>rfl
 |n+1,l=>by
  unfold kG;split
  .rw[Hk];simp
  .rfl
open Classical in
def Dg(v:Nat):∀(n:Nat) (l:Φ) (u:Nat),n<=l.j->(kG v n l).d u 0=if u<n/\∀j,u<=j->j<n->l.d j 0>v then v else l.d u 0
 |0,l,u,_=>by simp[kG]
 |n+1,l,u,h=>by
  unfold kG;by_cases c:l.d n 0>v
  .rw[zb c,Dg v n (l.set n v) u υ];by_cases e:u<n
   .by_cases d:∀j,u<=j->j<n->l.d j 0>v
    .rw[zb ⟨e,λj a b=>by rw[uW,za η];exact d j a b⟩,zb ⟨η,λj a b=>by
      by_cases f:j=n
      .subst f;exact c
      .exact d j a η⟩]
    .rw[za (λq=>d λj a b=>by have:=q.2 j a b;rwa [uW,za η] at this),za (λq=>d λj a b=>q.2 j a η),uW,za η]
   .rw[za (λq=>e q.1),uW];by_cases g:n=u
    .subst g;rw[zb ⟨rfl,η⟩,zb ⟨η,λj a b=>by
      have:j=n:=η;subst this;exact c⟩]
    .rw[za η,za η]
  .rw[za c];by_cases e:u<n+1
   .rw[za (λq=>c (q.2 n η η))]
   .rw[za (λq=>e q.1)]
def mO(w:Nat)(n:qO)(v:Nat):Prop:=v<w/\n.K.d v 0=v
def gF.none{w:Nat}{n:qO}(h:gF w n){i:Nat}(b:i<w)(d:¬n.K.d i 0<w):∀u,i<=u->¬mO w n u:=by
 intro u a ⟨c,e⟩;have:=h.seg i u b a η;omega
def gF.some{w:Nat}{n:qO}(h:gF w n){i:Nat}(a:i<w)(b:n.K.d i 0<w):i<=n.K.d i 0/\mO w n (n.K.d i 0)/\∀u,i<=u->u<n.K.d i 0->¬mO w n u:=by
 refine⟨h.ge i a,⟨b,h.fix i a b⟩,λu c d ⟨e,f⟩=>?_⟩;have:=h.seg i u a c d;omega
def gF.put{w:Nat}{n:qO}(h:gF w n){v d:Nat}(l:v<w)(z:¬mO w n v):gF w (lP n v d)/\(∀u,mO w (lP n v d) u↔u=v∨mO w n u)/\∀u,(lP n v d).down.d u 0=if u=v then d else n.down.d u 0:=by
 have y:=h.len;have g:n.K.d v 0>v:=by
  have s:=h.ge v l;rcases Nat.lt_or_eq_of_le s with q|q;exact q;exact zC ⟨l,q.z⟩ z
 have r:∀u,(kG v (v+1) n.K).d u 0=if u<=v/\n.K.d u 0>v then v else n.K.d u 0:=by
  intro u;rw[Dg v (v+1) n.K u η];by_cases m:u<=v;by_cases f:n.K.d u 0>v;have t:∀j,u<=j->j<v+1->n.K.d j 0>v:=λj s x=>by
   have:=h.seg u j η s η;omega
  rw[zb ⟨η,t⟩,zb ⟨m,f⟩];rw[za (λq=>f (q.2 u (ze _) η)),za (λq=>f q.2)];rw[za (λq=>η),za (λq=>η)]
 have a:∀u,(lP n v d).K.d u 0=if u<=v/\n.K.d u 0>v then v else n.K.d u 0:=r
 have e:(lP n v d).K.d v 0=v:=by rw[a,zb ⟨ze _,g⟩]
 refine⟨⟨by simp[lP,Hk,y],by simp[lP,h.dlen],λi c=>?_,λi c=>?_,λi c f=>?_,λi j c k o=>?_⟩,λu=>?_,λu=>?_⟩;rw[a];split;omega;exact h.ge i c;rw[a];split;omega;exact h.le i c;by_cases b:i<=v/\n.K.d i 0>v;rw[a i,zb b];exact e;rw[a i,za b] at f ⊢;have x:=h.fix i c f;rw[a];by_cases p:n.K.d i 0<=v/\n.K.d (n.K.d i 0) 0>v;omega;rw[za p];exact x;by_cases b:i<=v/\n.K.d i 0>v;rw[a i,zb b] at o ⊢;have:=h.seg i j c k η;rw[a,zb ⟨η,η⟩];rw[a i,za b] at o ⊢;have:=h.seg i j c k o;rw[a,this];rw[za η];unfold mO;rw[a];by_cases b:u<=v/\n.K.d u 0>v;rw[zb b];constructor;rintro⟨_,q⟩;exact zh q.z;rintro(q|q);subst q;exact⟨l,rfl⟩;omega;rw[za b];constructor;intro q;exact zg q;rintro(q|q);subst q;exact zC ⟨ze _,g⟩ b;exact q;show(n.down.set v d).d u 0=_;rw[uW];by_cases m:u=v;subst m;rw[zb ⟨rfl,by rw[h.dlen];exact l⟩,zb rfl];rw[za η,za m]
def sc(k d i:Nat)(a:i<k)(x:Nat):(m_ k x).d i d=x:=by simp[k_,a]
def gF.new(w:Nat):gF w ⟨m_ w w,m_ w 0⟩/\∀v,¬mO w ⟨m_ w w,m_ w 0⟩ v:=by
 refine⟨⟨ζ,ζ,λi a=>?_,λi a=>?_,λi a c=>?_,λi j a e b=>?_⟩,λv ⟨d,f⟩=>?_⟩<;>simp only at *
 rw[sc _ _ _ a];omega;rw[sc _ _ _ a];exact ze _;rw[sc _ _ _ a] at c;omega;rw[sc _ _ _ a] at b ⊢;rw[sc _ _ _ b];rw[sc _ _ _ d] at f;omega
end Go.Proofs.YteampbddflhngaaGreat
