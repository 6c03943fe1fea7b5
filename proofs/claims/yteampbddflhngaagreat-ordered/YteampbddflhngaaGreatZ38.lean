import Derived.Test.YteampbddflhngaaGreatZ37
namespace Go.Proofs.YteampbddflhngaaGreat
set_option linter.all false
set_option maxRecDepth 100000
set_option maxHeartbeats 2000000
open Go.Proofs.Tryz Go.RowKit
theorem QZ.start(w:World):QZ w.heap.size (w.alloc (.cells #[ν,ν,ν,ν,ι 0,ι 0,ι 0,ν,.bool true,ν,ν,ν,ν,ν] 35)) w.heap.size ⟨[],[],[],[],[],0,0,0,true⟩ ⟨ν,ν,ν,ν,ν,ν⟩:=
 ⟨zg _,Q8.new _ _ _,yD _ _ _ _,yD _ _ _ _,yD _ _ _ _,yD _ _ _ _,yD _ _ _ _,yD _ _ _ _,(by simp),(by simp[Value.ownBlock]),(by simp),(by simp),(by simp[RG]),(by simp),(by simp)⟩
theorem He(w:World)(v:Value)(l:List R9)(h:Si w v l)(r:∀x∈l,gT [1,7,11] x.kind/\SD x)(Y:l.length<=1048576)(hs:∀x∈l,x.s.size<=1048576):
  Calls prog 31 #[v] w fun e P=>e=ε (ι (-1))/\μ w P:=by
 obtain⟨ao,T,rfl⟩:=h.qx;have A:=Q7 r;have S:=Q7 hs;clear r hs;go_enter func31,ntmps31;go_wp2;go_loopw [4] (fun O wr=>∃k:Nat,k<=l.length/\O=ι k/\Hid (∃M V,M.ps.length<=k/\M.rs.length<=k/\M.row.length<=k/\M.ins.length<=k/\M.ord.length<=k/\QZ w.heap.size wr w.heap.size M V)/\μ w wr) (fun i _=>l.length-(intOf i).toNat)
 case atStart=>exact⟨0,zv _,rfl,⟨_,_,zg _,zg _,zg _,zg _,zg _,QZ.start w⟩,(by repeat'(first|with_reducible(first|apply zR|assumption|apply zN|apply zA|apply zD|apply zS)|go_size))⟩
 case round=>
  obtain⟨k,r,rfl,m,a⟩:=hrel;have F:=a.size;by_cases d:k<l.length
  ·obtain⟨b,o,rfl,f,z,I,B,G,D⟩:=h.cell k d;have U:=zl a f z;have R:=zl a f I;have L:=zl a f B;have J:=zl a f G;have K:=zl a f D;have N:b<wr.heap.size:=by omega
   obtain⟨M,V,W,g2,g3,g5,X,C⟩:=m.out;have y:=Q7 (Oi w.heap.size wr w.heap.size M V l[k] C (A.out _ (zs d)).1 (A.out _ (zs d)).2 (S.out _ (zs d)) (by omega) (by omega) (by omega) (by omega) (by omega));clear z I B G D C m;generalize l[k]=x at *;go_wp2_with (first|(go_at_call 57;refine y.out.mono ?_;rintro e Q ⟨rfl,n,t⟩;obtain⟨H,E,q,u⟩:=n.out;have c:=Q7 q;have s:=Q7 u;have p:=Q7 (N0 w.heap.size Q w.heap.size H E u (by have:=q.ins;omega));have j:=a.trans t.out;clear q u n)|(go_at_call 58;refine p.out.mono ?_;rintro e Z ⟨rfl,g⟩))
   go_roundw
   ·exact⟨k+1,by omega,by go_num,⟨H,E,by have:=c.out.ps;omega,by have:=c.out.rs;omega,by have:=c.out.row;omega,by have:=c.out.ins;omega,by have:=c.out.ord;omega,s.out.below g⟩,j.trans (g.mono (by have:=j.size;omega))⟩
   ·simp[intOf];omega
  ·go_wp2;go_ret;exact⟨rfl,a⟩
theorem IG(w:World)(v:Value)(l:List R9)(h:Si w v l)(o:∀x∈l,SD x):
  Calls prog 8 #[v] w fun e m=>e=ε (.bool true)/\μ w m:=by
 have b:Hid (A6 l [1,7,11]):=fun W j g n d k i=>He W j g n (fun x c=>⟨(d x c).2,o x (d x c).1⟩) k i;obtain⟨p,f,rfl⟩:=h.qx;go_enter func8,ntmps8;go_wp2_with (go_at_call 15;refine(MN _ _ l (by exact h.below (by repeat'(first|with_reducible(first|apply zR|assumption|apply zN|apply zA|apply zD|apply zS)|go_size))) _ [1,7,11] ⟨_,A7 _ [ι 1,ι 7,ι 11] _ (by decide)⟩ (by decide) b.out).mono ?_;rintro e q ⟨rfl,a⟩)
 go_ret;exact⟨rfl,QB ((zo w.heap.size w).alloc (zg _) _) a⟩
section
open Go.ChangeShapes Go.WideShapes Go.ChangeAt Go.Deep
theorem NG(os:Os)(b:os.Started)(H:Type)(enc:TypeId×Value->H):
  ReturnsInHanded {} checked os 8 .any (Rows.orderedSpec.pre6 enc prog Tryz.f8 Rows.orderedRow.domain false) (Rows.orderedSpec.post enc prog Tryz.f8 false true false false):=by
 refine returnsInHanded_of_change_sized (C:=checked) Qj b (by kernel_rfl) func8
  (ChangeSpec.witness6 (enc:=enc) (C:=checked) false ⟨#[],#[ν],[]⟩ 8 (by kernel_rfl) (by kernel_rfl) (by kernel_rfl) (by kernel_rfl)) ?_
 intro W i args w J m a y _ d _;have g:(DataW.weightsEach prog (Tryz.f8.params.toList++Rows.orderedSpec.plain.varTypes prog) (w++J)).all (·<=reachBytes)=true:=d;clear d;have c:∀(j:Nat) t v,Tryz.f8.params[j]?=some t->args[j]?=some v->Value.okWide prog W .any i t v:=a;have f:=y;obtain⟨p,q,k,E,rfl,_,_⟩:=y;have A:DataW.TrodAll enc prog W 0 (fun _=>true) true Tryz.f8.params.toList args.toList w p:=k;rw[params8] at A c g;obtain⟨D,I,rfl,rfl,s⟩:=trodAll_one A;obtain⟨rfl,rfl⟩:=trodVars_none E;have r:=s;obtain⟨z,F⟩:=s;clear k a;simp only[qM] at f;have o:∀x∈p,x.block<W.heap.size:=fun x B=>by simpa using f.lt x B
 obtain⟨O,M,L,rfl⟩:=okWide_slice underlying22 (c 0 22 D rfl rfl);obtain⟨l,G,n⟩:=I6 (x:=(I,p)) F g;refine(IG W _ l G n).mono fun e N ⟨K,u⟩=>?_;subst K;exact⟨_,rfl,⟨_,_,_,[],_,[],f,trodAll_mk1 (shut_bool underlying4 true),trodAll_mk1 (Below.trod Qt (by kernel_rfl) (of_decide_eq_true (by kernel_rfl)) r u o),rfl,u.frame _,fun h=>by cases h⟩⟩
theorem Ms:joinedFacts prog 8 Tryz.f8 Rows.orderedSpec Rows.orderedRow=true:=by
 unfold joinedFacts;simp only[uw];repeat'(with_reducible apply And.intro)
 all_goals (as_aux_lemma=>kernel_rfl)
theorem ordered_holds:Rows.OrderedSaid:=
 OpenClaim.holds_of_wide 8 Tryz.f8 rfl rfl rfl rfl rfl rfl rfl ⟨rfl,rfl,rfl,rfl,rfl⟩ rfl rfl rfl rfl rfl (by kernel_rfl) func8 Ms
  (of_decide_eq_true (by kernel_rfl)) (by unfold Func.isWrapper;first|(rw[zc (by decide +kernel)];kernel_rfl)|(rw[za (by decide +kernel)];exact⟨rfl,rfl⟩))
  (fun c a H b _=>NG c a H b)
#print axioms ordered_holds
end
end Go.Proofs.YteampbddflhngaaGreat
