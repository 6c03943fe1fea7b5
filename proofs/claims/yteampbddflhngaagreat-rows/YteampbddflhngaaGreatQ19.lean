import Derived.Test.YteampbddflhngaaGreatQ17
import Derived.Test.YteampbddflhngaaGreatQ18
namespace Go.Proofs.YteampbddflhngaaGreat
set_option linter.all false
set_option maxRecDepth 100000
set_option maxHeartbeats 4000000
open Go.Proofs.Tryz Go.RowKit
section
section
variable {B:Nat} {own:Sg} {w:World} {wb:Nat} {M:yT} {V:Nat->Value} {a b c:Int} {s:ByteArray}
def Kr(h:yh B own w wb M V)(p:lR)(C:p∈M.ps)(D:∀W,μ w W->∃J,nW W (V 7) M.nn J)(A:ST b)(G:ST c)(O:M.rs.length<=1048576):
  Calls prog 96 #[(π wb),.agg #[.pointer (some ⟨p.1,0,none⟩),.pointer (some ⟨p.2.1,0,none⟩)],.agg #[ι 7,ι a,ι b,ι c,.string s]] w λe d=>RE B own w wb M e d:=by
 have n:Hid (∀W,μ w W->Calls prog 17 #[(π wb),.agg #[.pointer (some ⟨p.1,0,none⟩),.pointer (some ⟨p.2.1,0,none⟩)],V 7,.bool M.nn,ι b,ι c] W λe d=>n5 B own W wb M V e d):=λW i=>by
  obtain⟨J,Y⟩:=D W i;exact N3 (h.below i) Y p C b c A G O
 have r:Hid (∀W,μ w W->W.cell? ⟨wb,7,none⟩=some (V 7)/\W.cell? ⟨wb,8,none⟩=some (.bool M.nn)/\wb<W.heap.size):=λW i=>by
  have q:=h.box.below i;exact⟨by rw[q.rules.1];rfl,by rw[q.rules.1];rfl,q.lt⟩
 have F:=Ry h.hd.new;clear h C D A G;generalize p.1=k at *;generalize p.2.1=j at *;go_enter func96,ntmps96;go_upto_region 3 with fail
 have m:Hid (μ w ((w.alloc (.cells #[(π k),(π j)] 40)).alloc (.cells #[ι 7,ι a,ι b,ι c,.string s] 67))):=(show μ w _ from(by repeat'(first|with_reducible(first|apply zR|assumption|apply zN|apply zA|apply zD|apply zS)|go_size)));have g:=Ry ((Rz.new w #[(π k),(π j)] 40).up (.cells #[ι 7,ι a,ι b,ι c,.string s] 67));have f:=Ry (Rz.newAt (w.alloc (.cells #[(π k),(π j)] 40)) (w.heap.size+1) #[ι 7,ι a,ι b,ι c,.string s] 67 (by simp));generalize (w.alloc (.cells #[(π k),(π j)] 40)).alloc (.cells #[ι 7,ι a,ι b,ι c,.string s] 67)=H at *;obtain⟨w7,w8,R⟩:=r.out _ m.out;have T:=g.out.rules.1 0;have L:=g.out.rules.1 1;have N:=g.out.lt;have X:=f.out.rules.1 2;have Q:=f.out.rules.1 3;have Z:=f.out.lt;simp at T L X Q;have x:Hid (∀W,μ H W->Calls prog 17 #[(π wb),.agg #[(π k),(π j)],V 7,.bool M.nn,ι b,ι c] W λe d=>e=ε (.bool true)/\Hid (RE B own w wb M e d)/\d.cell? ⟨wb,7,none⟩=some (V 7)/\d.cell? ⟨wb,8,none⟩=some (.bool M.nn)/\d.cell? ⟨w.heap.size,0,none⟩=some ((π k))/\d.cell? ⟨w.heap.size,1,none⟩=some ((π j))/\d.cell? ⟨w.heap.size+1,2,none⟩=some (ι b)/\d.cell? ⟨w.heap.size+1,3,none⟩=some (ι c)):=λW i=>by
  have l:=R5 m.out i;refine(n.out W l).mono ?_;rintro e d ⟨y,⟨o,S,v',P,K,U⟩,u⟩;have E:=u.out.box (g.out.below i) (F.out _ (zf _));have I:=u.out.box (f.out.below i) (F.out _ (Nat.le_succ _));have z:=K.box;exact⟨y,RE.from l ⟨y,⟨o,_,_,K,⟨by simp,P,by simp,by simp,by simp,by simp,by simp,by simp,rfl⟩,U⟩,u⟩,by rw[z.rules.1];rfl,by rw[z.rules.1];rfl,by rw[E.rules.1];rfl,by rw[E.rules.1];rfl,by rw[I.rules.1];rfl,by rw[I.rules.1];rfl⟩
 clear g f n r;generalize V 7=t at *;go_region_held3 (λd=>d.cell? ⟨wb,7,none⟩=some t/\d.cell? ⟨wb,8,none⟩=some (.bool M.nn)/\d.cell? ⟨w.heap.size,0,none⟩=some ((π k))/\d.cell? ⟨w.heap.size,1,none⟩=some ((π j))/\d.cell? ⟨w.heap.size+1,2,none⟩=some (ι b)/\d.cell? ⟨w.heap.size+1,3,none⟩=some (ι c)) (first|go_keep|(go_simp;done)) (first|(go_at_call 17;refine(x.out _ (by exact(by repeat'(first|with_reducible(first|apply zR|assumption|apply zN|apply zA|apply zD|apply zS)|go_size)))).mono ?_;rintro e w5 ⟨rfl,v,z1,z2,z3,z4,z5,z6⟩))
 all_goals
  go_wp2;go_ret;exact v.out
def Nb(h:yh B own w wb M V)(r:lS)(j:r∈M.rs)(d:ByteArray)(i:M.outer.length<=1048577)(f:M.lits.length<=1048577)(g:M.ls.length<=1200000000000):
  Calls prog 19 #[(π wb),.agg #[.pointer (some ⟨r.1,0,none⟩),.pointer (some ⟨r.2.1,0,none⟩),.pointer (some ⟨r.2.2.1,0,none⟩)],.string d] w λe l=>RE B own w wb M e l:=by
 cases k:(zU r.2.2.2.2 d).isSome;exact Ib h r j d k i f;exact N6 h r j d k i f g
def O2(h:yh B own w wb M V)(r:lS)(i:r∈M.rs)(l:M.outer.length<=1048577)(d:M.lits.length<=1048577)(g:M.ls.length<=1200000000000):
  Calls prog 97 #[(π wb),.agg #[.pointer (some ⟨r.1,0,none⟩),.pointer (some ⟨r.2.1,0,none⟩),.pointer (some ⟨r.2.2.1,0,none⟩)],.agg #[ι 8,ι a,ι b,ι c,.string s]] w λe j=>RE B own w wb M e j:=by
 have m:=Ry λW (k:μ w W)=>(Nb (h.below k) r i s l d g).mono λe j q=>RE.from k q;clear h i;generalize r.1=t at *;generalize r.2.1=p at *;generalize r.2.2.1=n at *;go_enter func97,ntmps97;go_wp2_with (go_at_call 19;refine(m.out _ (by exact(by repeat'(first|with_reducible(first|apply zR|assumption|apply zN|apply zA|apply zD|apply zS)|go_size)))).mono ?_;rintro e o ⟨rfl,f⟩)
 go_ret;exact⟨rfl,f⟩
end
end
def yh.start(w:World):yh w.heap.size (nu (λ_=>(0,0)) (sl w.heap.size 0) (1,0)) (w.alloc (.cells #[ν,ν,ν,ν,ι 0,ι 0,ι 0,ν,.bool true,ν,ν,ν,ν,ν] 35)) w.heap.size ⟨[],[],[],[],[],0,0,0,true,[],[],[]⟩ (λf=>if f=4∨f=5∨f=6 then ι 0 else if f=8 then .bool true else ν):=by
 have a:∀f b,(if f=4∨f=5∨f=6 then Value.int .i64 0 else if f=8 then .bool true else ν).ownBlock≠some b:=λf b=>by
  split;simp[Value.ownBlock];split<;>simp[Value.ownBlock]
 refine⟨⟨λb q=>?_,Rz.new _ _ _,eT rfl,λb q=>ip λe=>?_,λf T s n c q=>?_,λf b q=>z9 q (a f b)⟩,⟨by simp,by simp,by unfold ST;decide,by simp,by simp,by simp,by simp,by simp⟩,rfl,rfl,rfl,rfl⟩;unfold xI nu at q;by_cases e:(sl w.heap.size 0).ownBlock=some b;cases e;exact zf _;rw[za e] at q;exact z9 rfl q;cases e;simp at q;omega;unfold yT.f at q;split at q<;>first|(cases q;exact yW _ _ _ _)|cases q
structure n9 (k:Nat) (M:yT):Prop where
 ps:M.ps.length<=k
 rs:M.rs.length<=k
 row:M.row.length<=k
 ins:M.ins.length<=k
 ord:M.ord.length<=k
 ls:M.ls.length<=k*1048576
 outer:M.outer.length<=k
 lits:M.lits.length<=k
def nt.lim{k:Nat}{M M':yT}(h:nt M M')(a:n9 k M):n9 (k+1) M':=by
 obtain⟨i,m,j,c,r,b,n,p,_⟩:=h;obtain⟨l,d,s,e,f,g,q,o⟩:=a;exact⟨by omega,by omega,by omega,by omega,by omega,by omega,by omega,by omega⟩
def Cd(P:yT->Prop)(B wb k:Nat)(w:World)(e:Ending)(w':World):Prop:=e=ε (.bool true)/\Hid (∃a M V,yh B a w' wb M V/\n9 (k+1) M/\P M)/\Hid (Below B w w')
def I6(P:yT->Prop)(h0:P ⟨[],[],[],[],[],0,0,0,true,[],[],[]⟩)(w:World)(v:Value)(l:List S5)(h:Tc w v l)(hl:l.length<=1048576)(R:Hid (∀x∈l,∀c W M V k,yh w.heap.size c W w.heap.size M V->n9 k M->k<=1048576->P M->Calls prog 57 #[.pointer (some ⟨w.heap.size,0,none⟩),.agg #[ι x.kind,ι x.a,ι x.b,ι x.c,.string x.s]] W λe y=>Cd P w.heap.size w.heap.size k W e y)):
  Calls prog 31 #[v] w λe y=>e=ε (ι (-1))/\μ w y:=by
 obtain⟨ao,Y,rfl⟩:=h.qy;go_enter func31,ntmps31;go_wp2;go_loopw [4] (λN wr=>∃k:Nat,k<=l.length/\N=ι k/\Hid (∃c M V,yh w.heap.size c wr w.heap.size M V/\n9 k M/\P M)/\μ w wr) (λi _=>l.length-(intOf i).toNat);exact⟨0,zv _,rfl,⟨_,_,_,yh.start w,⟨by simp,by simp,by simp,by simp,by simp,by simp,by simp,by simp⟩,h0⟩,(by repeat'(first|with_reducible(first|apply zR|assumption|apply zN|apply zA|apply zD|apply zS)|go_size))⟩;obtain⟨k,hk,rfl,m,a⟩:=hrel;have F:=a.size;by_cases r:k<l.length
 .obtain⟨b,o,rfl,g,K,C,H,I,J⟩:=h.cell k r;have U:=zl a g K;have X:=zl a g C;have O:=zl a g H;have Z:=zl a g I;have T:=zl a g J;have Q:b<wr.heap.size:=by omega
  obtain⟨c,M,V,G,D,E⟩:=m.out;have z:=Ry (R.out _ (zt r) c wr M V k G D (by omega) E);clear K C H I J G D E m;generalize l[k]=x at *;go_wp2_with (first|(go_at_call 57;refine z.out.mono ?_;rintro e w1 ⟨rfl,p,n⟩;obtain⟨q,S,V',t,d,L⟩:=p.out;have B:=Ry t;have A:=Ry d;have u:=Ry L;have f:=Ry (a.trans n.out);have s:=Ry (IF t (by have:=d.outer;omega) (by have:=d.lits;omega) (by have:=d.ins;omega) (by have:=d.ls;omega));clear t d L p n)|(go_at_call 58;refine s.out.mono ?_;rintro e w2 ⟨rfl,j⟩))
  go_roundw;exact⟨k+1,by omega,by go_num,⟨q,S,V',B.out.below j,A.out,u.out⟩,f.out.trans (j.mono f.out.size)⟩;simp[intOf];omega
 go_wp2;go_ret;exact⟨rfl,a⟩
def RE.k{P:yT->Prop}{B:Nat}{own:Sg}{w:World}{wb k:Nat}{M:yT}{V:Nat->Value}(h:yh B own w wb M V)(i:n9 k M)(f:∀a,nt M a->P a){e:Ending}{w':World}(q:RE B own w wb M e w'):Cd P B wb k w e w':=by
 obtain⟨g,⟨b,a,l,d,c,m⟩,j⟩:=q;exact⟨g,⟨b,a,l,d,c.lim i,f a c⟩,h.down j.out⟩
def KT{B:Nat}{own:Sg}{w:World}{wb k:Nat}{M:yT}{V:Nat->Value}(x:S5)(h:yh B own w wb M V)(c:n9 k M)(s:k<=1048576)(i:M.nn=true)(a:SY [1,7,8] x.kind)(f:TI x)(hs:x.s.size<=1048576):
  Calls prog 57 #[(π wb),.agg #[ι x.kind,ι x.a,ι x.b,ι x.c,.string x.s]] w λe n=>RE B own w wb M e n:=by
 obtain⟨d,g,l⟩:=f;have t:=c.ls;have u:=c.row;have y:=c.ps;have q:=c.rs;have v:=c.outer;have o:=c.lits;rcases a with a|a|a;rw[a];exact C0 λW b=>LU (h.below b) _ _ _ _ (by omega);rw[a];exact C0 λW b=>Kh (h.below b) _ _ _ _ (by omega) d g;simp only[zy,lY,or_false] at a;rcases a with a|a|a<;>rw[a]
 exact M4 h hs (by omega);exact J5 h (by omega) d (by omega) λW b p m=>Kr (h.below b) p m (λj _=>⟨none,by rw[i];exact nW.no j _⟩) g l (by omega);exact Qn h (by omega) d (by omega) λW b r f=>O2 (h.below b) r f (by omega) (by omega) (by omega)
def Nu(w:World)(v:Value)(l:List S5)(h:Tc w v l)(u:∀x∈l,TI x):
  Calls prog 6 #[v] w λe i=>e=ε (.bool true)/\μ w i:=by
 have c:Hid (Db l [1,7,8]):=λW p o r f y t=>I6 (λM=>M.nn=true) rfl W p o r y λx a z W M V k m j n d=>(KT x m j n d (f x a).2 (u x (f x a).1) (t x a)).mono λe i q=>q.k m j λA g=>g.nn.trans d;obtain⟨B,s,rfl⟩:=h.qy;go_enter func6,ntmps6;go_wp2_with (go_at_call 15;refine(I2 _ _ l (by exact h.below (by repeat'(first|with_reducible(first|apply zR|assumption|apply zN|apply zA|apply zD|apply zS)|go_size))) _ [1,7,8] ⟨_,Ko _ [ι 1,ι 7,ι 8] _ (by decide)⟩ (by decide) c.out).mono ?_;rintro e C ⟨rfl,b⟩)
 go_ret;exact⟨rfl,R5 ((zp w.heap.size w).alloc (zf _) _) b⟩
section
open Go.ChangeShapes Go.WideShapes Go.ChangeAt Go.Deep
def GB(os:Os)(a:os.Started)(H:Type)(enc:TypeId×Value->H):
  ReturnsInHanded {} checked os 6 .any (Rows.rowsSpec.pre6 enc prog Tryz.f6 Rows.rowsRow.domain false) (Rows.rowsSpec.post enc prog Tryz.f6 false true false false):=by
 refine returnsInHanded_of_change_sized (C:=checked) QS a (by kernel_rfl) func6
  (ChangeSpec.witness6 (enc:=enc) (C:=checked) false ⟨#[],#[ν],[]⟩ 8 (by kernel_rfl) (by kernel_rfl) (by kernel_rfl) (by kernel_rfl)) ?_
 intro W k args u D m b w _ d _;have i:(DataW.weightsEach prog (Tryz.f6.params.toList++Rows.rowsSpec.plain.varTypes prog) (u++D)).all (·<=reachBytes)=true:=d;clear d;have c:∀(j:Nat) t v,Tryz.f6.params[j]?=some t->args[j]?=some v->Value.okWide prog W .any k t v:=b;have f:=w;obtain⟨p,q,g,B,rfl,_,_⟩:=w;have s:DataW.TrodAll enc prog W 0 (λ_=>true) true Tryz.f6.params.toList args.toList u p:=g;rw[params6] at s c i;obtain⟨F,L,rfl,rfl,A⟩:=trodAll_one s;obtain⟨rfl,rfl⟩:=trodVars_none B;have n:=A;obtain⟨z,K⟩:=A;clear g b;simp only[vR] at f;have r:∀x∈p,x.block<W.heap.size:=λx E=>by simpa using f.lt x E
 obtain⟨O,M,G,rfl⟩:=okWide_slice underlying22 (c 0 22 F rfl rfl);obtain⟨l,J,o⟩:=Ml (x:=(L,p)) K i;refine(Nu W _ l J o).mono λe N ⟨I,y⟩=>?_;subst I;exact⟨_,rfl,⟨_,_,_,[],_,[],f,trodAll_mk1 (shut_bool underlying4 true),trodAll_mk1 (Below.trod Rb (by kernel_rfl) (of_decide_eq_true (by kernel_rfl)) n y r),rfl,y.frame _,λh=>by cases h⟩⟩
def PQ:joinedFacts prog 6 Tryz.f6 Rows.rowsSpec Rows.rowsRow=true:=by
 unfold joinedFacts;simp only[uG];repeat'(with_reducible apply And.intro)
 all_goals (as_aux_lemma=>kernel_rfl)
theorem rows_holds:Rows.RowsSaid:=
 OpenClaim.holds_of_wide 6 Tryz.f6 rfl rfl rfl rfl rfl rfl rfl ⟨rfl,rfl,rfl,rfl,rfl⟩ rfl rfl rfl rfl rfl (by kernel_rfl) func6 PQ
  (of_decide_eq_true (by kernel_rfl)) (by unfold Func.isWrapper;first|(rw[zb (by decide +kernel)];kernel_rfl)|(rw[za (by decide +kernel)];exact⟨rfl,rfl⟩))
  (λc a H b _=>GB c a H b)
#print axioms rows_holds
end
end Go.Proofs.YteampbddflhngaaGreat
