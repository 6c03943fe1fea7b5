import Derived.Test.YteampbddflhngaaGreatZ37
namespace Go.Proofs.YteampbddflhngaaGreat
set_option linter.all false
set_option maxRecDepth 100000
set_option maxHeartbeats 2000000
open Go.Proofs.Tryz Go.RowKit
theorem QX.start(w:World):QX w.heap.size (w.alloc (.cells #[ν,ν,ν,ν,ι 0,ι 0,ι 0,ν,.bool true,ν,ν,ν,ν,ν] 35)) w.heap.size ⟨[],[],[],[],[],0,0,0,true⟩ ⟨ν,ν,ν,ν,ν,ν⟩:=
 ⟨zg _,Q6.new _ _ _,yC _ _ _ _,yC _ _ _ _,yC _ _ _ _,yC _ _ _ _,yC _ _ _ _,yC _ _ _ _,(by simp),(by simp[Value.ownBlock]),(by simp),(by simp),(by simp[RD]),(by simp),(by simp)⟩
theorem I6(w:World)(v:Value)(l:List R7)(h:Sg w v l)(q:∀x∈l,dC [1,7,11] x.kind/\S9 x)(X:l.length<=1048576)(hs:∀x∈l,x.s.size<=1048576):
  Calls prog 31 #[v] w fun e Q=>e=ε (ι (-1))/\μ w Q:=by
 obtain⟨Z,T,rfl⟩:=h.qx;have I:=Q5 q;have L:=Q5 hs;clear q hs;go_enter func31,ntmps31;go_wp2;go_loopw [4] (fun N wr=>∃k:Nat,k<=l.length/\N=ι k/\Hid (∃M V,M.ps.length<=k/\M.rs.length<=k/\M.row.length<=k/\M.ins.length<=k/\M.ord.length<=k/\QX w.heap.size wr w.heap.size M V)/\μ w wr) (fun i _=>l.length-(intOf i).toNat)
 case atStart=>exact⟨0,zv _,rfl,⟨_,_,zg _,zg _,zg _,zg _,zg _,QX.start w⟩,(by repeat'(first|with_reducible(first|apply zR|assumption|apply zN|apply zA|apply zD|apply zS)|go_size))⟩
 case round=>
  obtain⟨k,q,rfl,m,a⟩:=hrel;have G:=a.size;by_cases d:k<l.length
  ·obtain⟨b,o,rfl,g,D,C,z,F,B⟩:=h.cell k d;have R:=zl a g D;have J:=zl a g C;have K:=zl a g z;have U:=zl a g F;have P:=zl a g B;have O:b<wr.heap.size:=by omega
   obtain⟨M,V,g1,Y,g3,W,g6,A⟩:=m.out;have p:=Q5 (OC w.heap.size wr w.heap.size M V l[k] A (I.out _ (zs d)).1 (I.out _ (zs d)).2 (L.out _ (zs d)) (by omega) (by omega) (by omega) (by omega) (by omega));clear D C z F B A m;generalize l[k]=x at *;go_wp2_with (first|(go_at_call 57;refine p.out.mono ?_;rintro e S ⟨rfl,j,s⟩;obtain⟨E,H,r,t⟩:=j.out;have c:=Q5 r;have y:=Q5 t;have u:=Q5 (L7 w.heap.size S w.heap.size E H t (by have:=r.ins;omega));have n:=a.trans s.out;clear r t j)|(go_at_call 58;refine u.out.mono ?_;rintro e w2 ⟨rfl,f⟩))
   go_roundw
   case rel=>exact⟨k+1,by omega,by go_num,⟨E,H,by have:=c.out.ps;omega,by have:=c.out.rs;omega,by have:=c.out.row;omega,by have:=c.out.ins;omega,by have:=c.out.ord;omega,y.out.below f⟩,n.trans (f.mono (by have:=n.size;omega))⟩
   case measure=>simp[intOf];omega
  ·go_wp2;go_ret;exact⟨rfl,a⟩
theorem FZ(w:World)(v:Value)(l:List R7)(h:Sg w v l)(f:∀x∈l,S9 x):
  Calls prog 8 #[v] w fun e n=>e=ε (.bool true)/\μ w n:=by
 have b:Hid (C9 l [1,7,11]):=fun W i g j d k o=>I6 W i g j (fun x c=>⟨(d x c).2,f x (d x c).1⟩) k o;obtain⟨q,m,rfl⟩:=h.qx;go_enter func8,ntmps8;go_wp2_with (go_at_call 15;refine(Gw _ _ l (by exact h.below (by repeat'(first|with_reducible(first|apply zR|assumption|apply zN|apply zA|apply zD|apply zS)|go_size))) _ [1,7,11] ⟨_,CL _ [ι 1,ι 7,ι 11] _ (by decide)⟩ (by decide) b.out).mono ?_;rintro e p ⟨rfl,a⟩)
 go_ret;exact⟨rfl,Q9 ((zo w.heap.size w).alloc (zg _) _) a⟩
section
open Go.ChangeShapes Go.WideShapes Go.ChangeAt Go.Deep
theorem Ij(os:Os)(a:os.Started)(H:Type)(enc:TypeId×Value->H):
  ReturnsInHanded {} checked os 8 .any (Rows.orderedSpec.pre6 enc prog Tryz.f8 Rows.orderedRow.domain false) (Rows.orderedSpec.post enc prog Tryz.f8 false true false false):=by
 refine returnsInHanded_of_change_sized (C:=checked) Qa a (by kernel_rfl) func8
  (ChangeSpec.witness6 (enc:=enc) (C:=checked) false ⟨#[],#[ν],[]⟩ 8 (by kernel_rfl) (by kernel_rfl) (by kernel_rfl) (by kernel_rfl)) ?_
 intro W i args z I m b s _ c _;have g:(DataW.weightsEach prog (Tryz.f8.params.toList++Rows.orderedSpec.plain.varTypes prog) (z++I)).all (·<=reachBytes)=true:=c;clear c;have d:∀(j:Nat) t v,Tryz.f8.params[j]?=some t->args[j]?=some v->Value.okWide prog W .any i t v:=b;have f:=s;obtain⟨p,q,k,J,rfl,_,_⟩:=s;have A:DataW.TrodAll enc prog W 0 (fun _=>true) true Tryz.f8.params.toList args.toList z p:=k;rw[params8] at A d g;obtain⟨K,F,rfl,rfl,w⟩:=trodAll_one A;obtain⟨rfl,rfl⟩:=trodVars_none J;have n:=w;obtain⟨u,G⟩:=w;clear k b;simp only[qQ] at f;have r:∀x∈p,x.block<W.heap.size:=fun x L=>by simpa using f.lt x L
 obtain⟨N,E,M,rfl⟩:=okWide_slice underlying22 (d 0 22 K rfl rfl);obtain⟨l,B,o⟩:=OF (x:=(F,p)) G g;refine(FZ W _ l B o).mono fun e O ⟨D,y⟩=>?_;subst D;exact⟨_,rfl,⟨_,_,_,[],_,[],f,trodAll_mk1 (shut_bool underlying4 true),trodAll_mk1 (Below.trod Qo (by kernel_rfl) (of_decide_eq_true (by kernel_rfl)) n y r),rfl,y.frame _,fun h=>by cases h⟩⟩
theorem Il:joinedFacts prog 8 Tryz.f8 Rows.orderedSpec Rows.orderedRow=true:=by
 unfold joinedFacts;simp only[ux];repeat'(with_reducible apply And.intro)
 all_goals (as_aux_lemma=>kernel_rfl)
theorem ordered_holds:Rows.OrderedSaid:=
 OpenClaim.holds_of_wide 8 Tryz.f8 rfl rfl rfl rfl rfl rfl rfl ⟨rfl,rfl,rfl,rfl,rfl⟩ rfl rfl rfl rfl rfl (by kernel_rfl) func8 Il
  (of_decide_eq_true (by kernel_rfl)) (by unfold Func.isWrapper;first|(rw[zc (by decide +kernel)];kernel_rfl)|(rw[za (by decide +kernel)];exact⟨rfl,rfl⟩))
  (fun c a H b _=>Ij c a H b)
#print axioms ordered_holds
end
end Go.Proofs.YteampbddflhngaaGreat
