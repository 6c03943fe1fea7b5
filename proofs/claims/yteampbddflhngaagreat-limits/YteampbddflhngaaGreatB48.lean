import Derived.Test.YteampbddflhngaaGreatB47
import Derived.Test.YteampbddflhngaaGreatB40

namespace Go.Proofs.YteampbddflhngaaGreat
open Classical
theorem small_sub {D E:DB} {m n:Nat} (h:SmallDB E n) (k:SmallDB D m) (hs:∀ p x,InD D p x->InD E p x):SmallDB D n:=by
  obtain ⟨a,a1,a2⟩:=h
  obtain ⟨b,b1,b2⟩:=k
  exact ⟨b,Nat.le_trans (card_le b2 a2 hs) a1,b2⟩
theorem rounds_some (rs:List PRule) (mr:Nat):∀ (left k:Nat) (D D':DB) (k':Nat),absRounds rs mr left k D=some (D',k')->(∀ p x,InD D p x->InD D' p x)/\k < k'/\k'<=k+left/\SmallDB D' mr/\∀ mr' left',SmallDB D' mr'->k'<=k+left'->absRounds rs mr' left' k D=some (D',k')
  | 0,_,_,_,_,h=>by cases h
  | left+1,k,D,D',k',h=>by
    unfold absRounds at h
    split at h
    · rename_i hs
      split at h
      · rename_i hc
        simp only [Option.some.injEq,Prod.mk.injEq] at h
        obtain ⟨rfl,rfl⟩:=h
        refine ⟨roundD_sub _ _ _,by omega,by omega,hs,fun mr' left' h1 h2=>?_⟩
        obtain ⟨j,rfl⟩:∃ j,left'=j+1:=⟨left' - 1,by omega⟩
        unfold absRounds
        rw [if_pos h1,if_pos hc]
      · rename_i hc
        obtain ⟨q1,q2,q3,q4,q5⟩:=rounds_some rs mr left (k+1) _ D' k' h
        refine ⟨fun p x hx=>q1 p x (roundD_sub _ _ _ p x hx),by omega,by omega,q4,fun mr' left' h1 h2=>?_⟩
        obtain ⟨j,rfl⟩:∃ j,left'=j+1:=⟨left' - 1,by omega⟩
        unfold absRounds
        rw [if_pos (small_sub h1 hs q1),if_neg hc]
        exact q5 mr' j h1 (by omega)
    · cases h
theorem strata_some (rules:List PRule) (mr mx:Nat):∀ (n s k:Nat) (D D':DB) (k':Nat),SmallDB D mr->k<=mx->absStrata rules mr mx n s k D=some (D',k')->(∀ p x,InD D p x->InD D' p x)/\k<=k'/\k'<=mx/\SmallDB D' mr/\∀ mr' mx',SmallDB D' mr'->k'<=mx'->absStrata rules mr' mx' n s k D=some (D',k')
  | 0,_,k,D,D',k',hs,hk,h=>by
    unfold absStrata at h
    simp only [Option.some.injEq,Prod.mk.injEq] at h
    obtain ⟨rfl,rfl⟩:=h
    exact ⟨fun _ _ q=>q,Nat.le_refl _,hk,hs,fun _ _ _ _=>rfl⟩
  | n+1,s,k,D,D',k',hs,hk,h=>by
    unfold absStrata at h
    split at h
    · rename_i h0
      obtain ⟨q1,q2,q3,q4,q5⟩:=strata_some rules mr mx n (s+1) k D D' k' hs hk h
      refine ⟨q1,q2,q3,q4,fun mr' mx' h1 h2=>?_⟩
      unfold absStrata
      rw [if_pos h0]
      exact q5 mr' mx' h1 h2
    · rename_i h0
      split at h
      · cases h
      · rename_i D1 k1 hr
        obtain ⟨r1,r2,r3,r4,r5⟩:=rounds_some _ mr _ k D D1 k1 hr
        obtain ⟨q1,q2,q3,q4,q5⟩:=strata_some rules mr mx n (s+1) k1 D1 D' k' r4 (by omega) h
        refine ⟨fun p x hx=>q1 p x (r1 p x hx),by omega,q3,q4,fun mr' mx' h1 h2=>?_⟩
        unfold absStrata
        rw [if_neg h0,r5 mr' (mx' - k) (small_sub h1 r4 q1) (by omega)]
        exact q5 mr' mx' h1 h2
theorem run_some {S:PSet} {mr mx:Nat} {D:DB} {k:Nat} (h:absRun S mr mx=some (D,k)):k<=mx/\SmallDB D mr/\∀ mr' mx',SmallDB D mr'->k<=mx'->absRun S mr' mx'=some (D,k):=by
  unfold absRun at h
  split at h
  · rename_i hs
    obtain ⟨q1,_,q3,q4,q5⟩:=strata_some S.rules mr mx _ 0 0 _ D k hs (Nat.zero_le _) h
    refine ⟨q3,q4,fun mr' mx' h1 h2=>?_⟩
    unfold absRun
    rw [if_pos (small_sub h1 hs q1)]
    exact q5 mr' mx' h1 h2
  · cases h
theorem run_same {S:PSet} {mr mx mr' mx':Nat} {D D':DB} {k k':Nat} (h:absRun S mr mx=some (D,k)) (h':absRun S mr' mx'=some (D',k')):D=D'/\k=k':=by
  obtain ⟨a1,a2,a3⟩:=run_some h
  obtain ⟨b1,b2,b3⟩:=run_some h'
  have e1:=a3 (max mr mr') (max mx mx') (by obtain ⟨n,n1,n2⟩:=a2;exact ⟨n,by omega,n2⟩) (by omega)
  have e2:=b3 (max mr mr') (max mx mx') (by obtain ⟨n,n1,n2⟩:=b2;exact ⟨n,by omega,n2⟩) (by omega)
  rw [e1] at e2
  simp only [Option.some.injEq,Prod.mk.injEq] at e2
  exact e2
theorem limits_pure {S:PSet} {mr mx:Nat} {D:DB} {k c:Nat} (h:absRun S mr mx=some (D,k)) (hc:HasCard D c):absRun S c k=some (D,k)/\(0 < c->absRun S (c - 1) k=none)/\(0 < k->absRun S c (k - 1)=none):=by
  obtain ⟨a1,a2,a3⟩:=run_some h
  refine ⟨a3 c k ⟨c,Nat.le_refl _,hc⟩ (Nat.le_refl _),fun h0=>?_,fun h0=>?_⟩
  · cases hq:absRun S (c - 1) k with
    | none=>rfl
    | some x =>
      obtain ⟨D1,k1⟩:=x
      obtain ⟨rfl,rfl⟩:=run_same h hq
      obtain ⟨n,n1,n2⟩:=(run_some hq).2.1
      have:=card_eq hc n2
      omega
  · cases hq:absRun S c (k - 1) with
    | none=>rfl
    | some x =>
      obtain ⟨D1,k1⟩:=x
      obtain ⟨rfl,rfl⟩:=run_same h hq
      have:=(run_some hq).1
      omega
theorem Parts.low {cs:List PClause} {t0 t:List PEnt} (h:Parts cs t0 t):t.length=t0.length/\t.length<=500/\∀ n,stratumN t n<=t.length:=by
  have hAr:arT t=arT t0:=by have:=arT_strat (t0.length+1) t0 cs;rw [h.strat] at this;exact this
  have hlen:t.length=t0.length:=by have:=congrArg List.length hAr;simpa [arT] using this
  have h1:=addO_len _ [] t0 h.coll
  have h2:=prW_lits cs
  have h3:=h.few
  simp only [List.length_nil,Nat.zero_add] at h1
  have hall:AllIn t0 cs:=by
    intro c hc l hl
    have hmem:l∈cs.flatMap litsOf:=List.mem_flatMap.2 ⟨c,hc,hl⟩
    cases he:entAt t0 l.pred with
    | some e=>rfl
    | none =>
      obtain ⟨e,hm,hn⟩:=List.mem_map.1 ((h.tab.names l.pred).2 ⟨l,hmem,rfl⟩)
      exact absurd hn (entAt_out h.tab.rise he e hm)
  have hz:∀ n,val t0 n=0:=fun n=>by
    unfold val
    split
    · rename_i e he
      have:=addO_zero _ [] (fun e he=>by cases he) t0 h.coll e (entAt_mem he).1
      omega
    · rfl
  have hL:=(strat_iff hall hz).2 (by rw [h.strat])
  rw [h.strat] at hL
  refine ⟨hlen,by omega,fun n=>?_⟩
  rw [stratumN_val]
  by_cases hn:n∈namesT t0
  · have:=least_lt hL (ps:=namesT t0) (fun c hc l hl=>(h.tab.names l.pred).2 ⟨l,List.mem_flatMap.2 ⟨c,hc,hl⟩,rfl⟩) hn
    simp [namesT] at this
    show val t n<=_
    omega
  · have:val t n=0:=val_out (by rw [arT_names hAr];exact hn)
    omega
theorem argsC_w (cs:List PClause):argsC cs<=prW cs:=by
  induction cs with
  | nil=>simp [argsC,prW]
  | cons c cs ih =>
    have h1:=sumW_args c.body
    have h2:argsB c.body=sumArgs c.body:=by
      have:∀ ls:List PLit,argsB ls=sumArgs ls:=by
        intro ls
        induction ls with
        | nil=>rfl
        | cons a ls ih=>simp [argsB,sumArgs,argsN] at ih ⊢;omega
      exact this _
    simp [argsC,prW,clW,litW,argsN] at ih ⊢
    omega
end Go.Proofs.YteampbddflhngaaGreat

namespace Go.Proofs.YteampbddflhngaaGreat
open Go.RowKit
theorem Parts.runok {cs:List PClause} {t0 t:List PEnt} (h:Parts cs t0 t):RunOK cs t none/\SetWF (makeM t (collectC cs) none cs):=by
  have hset:SetWF (makeM t (collectC cs) none cs):=set_wf h _ none (fun i hi=>place_none (plainVs_five (h.many _ (List.getElem_mem hi))))
  obtain ⟨_,hl,hst⟩:=h.low
  have hf:=h.few
  have hlen:=prW_len cs
  have hargs:=argsC_w cs
  have hvals:(collectC cs).length<=500:=by
    have:=clauseC_len cs []
    simp only [List.length_nil,Nat.zero_add] at this
    show (cs.foldl clauseC []).length<=500
    omega
  have hok:=prW_ok (cs:=cs) (by omega)
  have hbody:∀ c∈cs,c.body.length<=6:=fun c hc=>(manyC_parts (h.many c hc)).2.1
  refine ⟨⟨by omega,by omega,hok,fun c hc=>⟨(hok c hc).1,by have:=hbody c hc;omega⟩,⟨by omega,by omega,fun c hc=>(hok c hc).2⟩,by omega,fun n=>by have:=hst n;omega,by simp,by simp,fun _=>by simp,fun _=>⟨fun r hr=>⟨fun l hl=>((hset.rules.rules r hr).plain l hl).1,fun l hl=>⟨((hset.rules.rules r hr).nots l hl).1,hset.rules.apart r hr r hr rfl l hl⟩⟩,?_,fun a ha=>by have:=hset.small a ha;omega,fun f hf=>(hset.facts f hf).2.1.1,?_,by show (collectC cs).length<=1000;omega⟩⟩,hset⟩
  · show (t.map (·.arity)).length<=1000
    simp;omega
  · show (factsM t (collectC cs) cs).length<=1000000
    have:(factsM t (collectC cs) cs).length<=cs.length:=by
      unfold factsM
      rw [List.length_map]
      exact List.length_filter_le _ _
    omega
def RunAbs (lp:Nat) (t:List PEnt) (ns:List ByteArray) (o:Option (DB × Nat)) (w:World) (e:Ending) (w':World):Prop:=match o with
  | none=>e=.returned (.tuple #[.pointer none,.int .i64 10])/\Below w.heap.size w w'
  | some x=>∃ (R:PRun) (rb:Nat) (pv nv rv:Value) (tbs:List Nat),w.heap.size<=rb/\e=.returned (.tuple #[.pointer (some ⟨rb,0,none⟩),.int .i64 0])/\ResO w.heap.size lp w' rb t ns R pv nv rv tbs/\RunInv (t.map (·.arity)) (widthP ns.length) R/\absR (t.map (·.arity)) R=x.1/\R.rounds=x.2/\HasCard x.1 R.count/\R.count<=1048576/\Below w.heap.size w w'
theorem prun_abs {lp:Nat} (w:World) (pb:Nat) {cs:List PClause} {t0 t:List PEnt} (hP:PProg lp w pb cs t) (h:Parts cs t0 t) (hlp:lp<=w.heap.size) (mr mx:Nat) (h1:mr<=1048576) (h2:mx<=1048576) :
    Calls Tryz.prog 35 #[.pointer (some ⟨pb,0,none⟩),.slice none 0 0,.int .i64 mr,.int .i64 mx] w fun e w'=>RunAbs lp t (collectC cs) (absRun (makeM t (collectC cs) none cs) mr mx) w e w':=by
  obtain ⟨hk,hset⟩:=h.runok
  obtain ⟨N,hN⟩:=run_spec hset (mr:=mr) (mx:=mx) h1
  obtain ⟨res,r1,r2,r3⟩:=hN N (Nat.le_refl _)
  refine (prun_any w pb cs t (.slice none 0 0) none mr mx N res hP rfl hk rfl h1 h2 hlp r1).mono ?_
  intro e w' hres
  cases res with
  | none=>rw [r2 rfl];exact hres
  | some R =>
    obtain ⟨q1,q2,q3⟩:=r3 R rfl
    obtain ⟨rb,pv,nv,rv,tbs,s1,s2,s3,s4⟩:=hres
    rw [q3]
    exact ⟨R,rb,pv,nv,rv,tbs,s1,s2,s3,q1,rfl,rfl,q1.card hset.small,by omega,s4⟩
end Go.Proofs.YteampbddflhngaaGreat
