import Derived.Test.YteampbddflhngaaGreatV53
namespace Go.Proofs.YteampbddflhngaaGreat
set_option linter.all false
set_option maxRecDepth 100000
set_option maxHeartbeats 1600000
open Go.Proofs.Tryz Go.ChangeShapes Go.WideShapes Go.ChangeAt Go.RowKit Go.Deep
theorem JV(y:Os)(a:y.Started)(H:Type)(enc:TypeId×Value->H):
  ReturnsInHanded {} checked y 7 .any (Rows.whensSpec.pre6 enc prog Tryz.f7 Rows.whensRow.domain false) (Rows.whensSpec.post enc prog Tryz.f7 false true false false):=by
 refine returnsInHanded_of_change_sized (C:=checked) OG a (by kernel_rfl) func7
  (ChangeSpec.witness6 (enc:=enc) (C:=checked) false ⟨#[],#[.slice none 0 0],[]⟩ 8 (by kernel_rfl) (by kernel_rfl) (by kernel_rfl) (by kernel_rfl)) ?_
 intro W i args u L m b z _ c _;have k:(DataW.weightsEach prog (Tryz.f7.params.toList++Rows.whensSpec.plain.varTypes prog) (u++L)).all (·<=reachBytes)=true:=c;clear c;have d:∀(j:Nat) t v,Tryz.f7.params[j]?=some t->args[j]?=some v->Value.okWide prog W .any i t v:=b;have f:=z;obtain⟨p,q,g,I,rfl,_,_⟩:=z;have s:DataW.TrodAll enc prog W 0 (fun _=>true) true Tryz.f7.params.toList args.toList u p:=g;rw[params7] at s d k;obtain⟨N,K,rfl,rfl,w⟩:=trodAll_one s;obtain⟨rfl,rfl⟩:=trodVars_none I;have r:=w;obtain⟨A,J⟩:=w;clear g b;simp only[qA] at f;have n:∀x∈p,x.block<W.heap.size:=fun x D=>by simpa using f.lt x D
 obtain⟨P,M,F,rfl⟩:=okWide_slice underlying22 (d 0 22 N rfl rfl);obtain⟨l,G,o⟩:=Fe (x:=(K,p)) J k;refine(GS W _ l G o).mono fun e O ⟨E,B⟩=>?_;subst E;exact⟨_,rfl,⟨_,_,_,[],_,[],f,trodAll_mk1 (shut_bool underlying4 true),trodAll_mk1 (Below.trod OS (by kernel_rfl) (of_decide_eq_true (by kernel_rfl)) r B n),rfl,B.frame _,fun h=>by cases h⟩⟩
theorem L1:joinedFacts prog 7 Tryz.f7 Rows.whensSpec Rows.whensRow=true:=by
 unfold joinedFacts;simp only[uZ];repeat'(with_reducible apply And.intro)
 all_goals (as_aux_lemma=>kernel_rfl)
theorem whens_holds:Rows.WhensSaid:=
 OpenClaim.holds_of_wide 7 Tryz.f7 rfl rfl rfl rfl rfl rfl rfl ⟨rfl,rfl,rfl,rfl,rfl⟩ rfl rfl rfl rfl rfl (by kernel_rfl) func7 L1
  (of_decide_eq_true (by kernel_rfl)) (by unfold Func.isWrapper;first|(rw[zb (by decide +kernel)];kernel_rfl)|(rw[za (by decide +kernel)];exact⟨rfl,rfl⟩))
  (fun c a H b _=>JV c a H b)
#print axioms whens_holds
end Go.Proofs.YteampbddflhngaaGreat
