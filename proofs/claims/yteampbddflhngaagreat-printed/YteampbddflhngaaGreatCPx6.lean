import Derived.Test.YteampbddflhngaaGreatCPx5

namespace Go.Proofs.YteampbddflhngaaGreat
theorem zij.word{l:zbc}(h:zij l):z2q l:=fun x hx=>z9u (h.2 x hx)
theorem zkl.word{c:zaa}(h:zkl c):ybl c:=⟨h.1,h.2.1.word,fun l hl=>(h.2.2 l hl).word⟩
theorem z0g(S:zjg)(l:zbc):1<=(z3m S l).length:=by
 unfold z3m zku
 split <;> simp
theorem zvl(S:zjg):∀ b:List zbc,b.length<=(znp S b).length
 |[]=>by simp
 |[l]=>by have:=z0g S l;simp[znp];exact this
 |l::m::r=>by
  have ih:=zvl S (m::r)
  have:=z0g S l
  simp only[znp,List.length_append,List.length_cons] at ih ⊢
  omega
theorem ya4(S:zjg)(c:zaa):c.body.length+1<=(clK S c).length:=by
 have:=zvl S c.body
 unfold clK
 by_cases hb:c.body=[]
 ·simp[hb]
 ·simp only[if_neg hb,List.length_append,List.length_cons,List.length_nil]
  omega
theorem zpv(S:zjg):∀ cs:List zaa,cs.length<=(zi0 S cs).length/\∀ c∈cs,c.body.length<=(zi0 S cs).length
 |[]=>⟨by simp,fun c h=>by cases h⟩
 |c::cs=>by
  obtain⟨i1,i2⟩:=zpv S cs
  have hc:=ya4 S c
  have e:(zi0 S (c::cs)).length=(clK S c).length+(zi0 S cs).length:=by simp[zi0]
  refine⟨by rw[e];simp;omega,fun d hd=>?_⟩
  rw[e]
  rcases List.mem_cons.1 hd with rfl|hd
  ·omega
  ·have:=i2 d hd;omega
theorem z5h{s:ByteArray}{cs:List zaa}{t:List zaq}(h:zia s=.ok (cs,t))(hs:(zd5 cs).size<=500):zia (zd5 cs)=.ok (cs,t):=by
 unfold zia at h
 split at h
 ·cases h
 ·split at h
  ·cases h
  ·rename_i l hl
   split at h
   ·cases h
   ·rename_i ds hd
    have hw:=zmj _ hd (zpf hl)
    have hcs:ds=cs:=by
     repeat'(split at h)
     all_goals first|(cases h;done)|(simp only[Except.ok.injEq,Prod.mk.injEq] at h;exact h.1)
    subst hcs
    have hp:zdp (zi0 signs ds).length (zi0 signs ds).length (zi0 signs ds)=some ds:=zwj signs _ _ ds (fun c hc=>⟨(hw c hc).word,(zpv signs ds).2 c hc⟩) (zpv signs ds).1
    unfold zia
    rw[if_neg (by omega),z1g hw]
    simp only[hp]
    exact h
end Go.Proofs.YteampbddflhngaaGreat
