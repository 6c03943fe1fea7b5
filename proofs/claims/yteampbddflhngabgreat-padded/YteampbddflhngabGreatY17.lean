import Derived.Test.YteampbddflhngabGreatY08
import Derived.Test.YteampbddflhngabGreatY16

namespace Go.Proofs.YteampbddflhngabGreat
structure zcr where
 lit:zak
 before:zad
 fresh:zad
 all:zad
 deriving DecidableEq
structure zbk where
 rule:zah
 views:List zcr
 deriving DecidableEq
structure zim where
 pred:Nat
 row:zao
 deriving DecidableEq
structure zsc where
 width:Nat
 arities:List Nat
 facts:List zim
 rules:List zah
 deriving DecidableEq
structure zbg where
 rows:List zad
 count:Nat
 rounds:Nat
 moves:Int
 fresh:List (List zao)
 deriving DecidableEq
def zad.zero:zad:=⟨0,0,[],0⟩
def zfa(R:zbg):zbg:={ R with fresh:=List.replicate R.rows.length [] }
def okT(T:zad):Bool:=decide (T.nodes.length<=90000000) && decide (T.count < 1000000000)
def zdz:List zao->zad->Option zad
 |[],T=>some T
 |r::rs,T=>if okT T then zdz rs (zfo T r 0).1 else none
def rowsG(fuel:Nat)(T:zad):Option (List zao) :=
 match zr4 fuel T with
 |none=>none
 |some rs=>if rs.length<=1048576 then some rs else none
def zyp(maxRows:Nat)(R:zbg)(pred:Nat)(row:zao):Option (zbg × Bool) :=
 if pred < R.rows.length/\pred < R.fresh.length/\okT (R.rows.getD pred zad.zero)=true/\R.count<=1048576/\(R.fresh.getD pred []).length<=1048576 then
  match zfo (R.rows.getD pred zad.zero) row R.rounds with
  |(T,false)=>some ({ R with rows:=R.rows.set pred T },true)
  |(T,true)=>some ({ R with rows:=R.rows.set pred T,fresh:=R.fresh.set pred (R.fresh.getD pred []++[row]),count:=R.count+1 },decide (R.count+1<=maxRows))
 else none
def zgf(width:Nat)(R:zbg)(pred:Nat):zad:=if pred ≥ R.rows.length then zfv width 0 else R.rows.getD pred zad.zero
def zif(fuel width:Nat)(V:zcr)(rows:List zao):Option zcr :=
 match rowsG fuel V.fresh with
 |none=>none
 |some old =>
  match zdz old V.before,zdz (rows.filterMap (zb0 V.lit)) (zfv width (zbb V.lit)),zdz (rows.filterMap (zb0 V.lit)) V.all with
  |some b,some f,some a=>some { V with before:=b,fresh:=f,all:=a }
  |_,_,_=>none
def zex(width:Nat)(l:zak):zcr:=⟨l,zfv width (zbb l),zfv width (zbb l),zfv width (zbb l)⟩
def zlt(fuel width:Nat)(R:zbg):List zak->Option (List zcr)
 |[]=>some []
 |l::r =>
  match rowsG fuel (zgf width R l.pred) with
  |none=>none
  |some rows=>match zif fuel width (zex width l) rows,zlt fuel width R r with
   |some v,some vs=>some (v::vs)
   |_,_=>none
def worksR(fuel width:Nat)(R:zbg)(stratum:Nat):List zah->Option (List zbk)
 |[]=>some []
 |r::rs =>
  if r.stratum=stratum then
   match zlt fuel width R r.plain,worksR fuel width R stratum rs with
   |some vs,some ws=>some (⟨r,vs⟩::ws)
   |_,_=>none
  else worksR fuel width R stratum rs
def zdl(maxRows pred:Nat):Nat->zbg->zav->Option (zbg × Bool)
 |0,_,_=>none
 |n+1,R,J =>
  match zua n J with
  |none=>none
  |some (J,false)=>some ({ R with moves:=IntKind.i64.wrap (R.moves+J.moves) },true)
  |some (J,true)=>match zyp maxRows R pred (zcs J.head J.values) with
   |none=>none
   |some (R,false)=>some (R,false)
   |some (R,true)=>zdl maxRows pred n R J
def zhk(width:Nat)(R:zbg)(r:zah):List zad:=r.nots.map fun l=>zgf width R l.pred
def partly(vs:List zcr)(place:Nat):List zad:=vs.zipIdx.map fun x=>if x.2 < place then x.1.before else if x.2=place then x.1.fresh else x.1.all
def zgu(fuel width maxRows:Nat)(W:zbk):Nat->Nat->zbg->Option (zbg × Bool)
 |0,_,R=>some (R,true)
 |n+1,i,R =>
  if (W.views.getD i ⟨⟨0,[]⟩,zad.zero,zad.zero,zad.zero⟩).fresh.count > 0 then
   match zdl maxRows W.rule.head.pred fuel R (za3 W.rule (partly W.views i) (zhk width R W.rule)) with
   |none=>none
   |some (R,false)=>some (R,false)
   |some (R,true)=>zgu fuel width maxRows W n (i+1) R
  else zgu fuel width maxRows W n (i+1) R
def zit(fuel width maxRows:Nat)(first:Bool)(R:zbg)(W:zbk):Option (zbg × Bool) :=
 if first then zdl maxRows W.rule.head.pred fuel R (za3 W.rule (W.views.map (·.all)) (zhk width R W.rule))
 else zgu fuel width maxRows W W.views.length 0 R
def zf3(fuel width maxRows:Nat)(first:Bool):List zbk->zbg->Option (zbg × Bool)
 |[],R=>some (R,true)
 |W::ws,R =>
  match zit fuel width maxRows first R W with
  |none=>none
  |some (R,false)=>some (R,false)
  |some (R,true)=>zf3 fuel width maxRows first ws R
def zhm(fuel width:Nat)(fresh:List (List zao)):List zcr->Option (List zcr)
 |[]=>some []
 |V::vs =>
  match (if V.lit.pred < fresh.length then zif fuel width V (fresh.getD V.lit.pred []) else some V),zhm fuel width fresh vs with
  |some v,some vs=>some (v::vs)
  |_,_=>none
def zhn(fuel width:Nat)(fresh:List (List zao)):List zbk->Option (List zbk)
 |[]=>some []
 |W::ws =>
  match zhm fuel width fresh W.views,zhn fuel width fresh ws with
  |some v,some ws=>some ({ W with views:=v }::ws)
  |_,_=>none
def zqw(fuel width maxRows:Nat)(first:Bool)(ws:List zbk)(R:zbg):Option (zbg × List zbk × Bool) :=
 match zf3 fuel width maxRows first ws (zfa { R with rounds:=R.rounds+1 }) with
 |none=>none
 |some (R,false)=>some (R,ws,false)
 |some (R,true)=>(zhn fuel width R.fresh ws).map fun ws=>(R,ws,true)
def zg3(width maxRows maxRounds:Nat):Nat->Bool->List zbk->zbg->Option (zbg × Bool)
 |0,_,_,_=>none
 |n+1,first,ws,R =>
  if R.rounds ≥ maxRounds then some (R,false)
  else match zqw n width maxRows first ws R with
   |none=>none
   |some (R',_,false)=>some (R',false)
   |some (R',ws,true)=>if R'.count > R.count then zg3 width maxRows maxRounds n false ws R' else some (R',true)
def zls(fuel width maxRows maxRounds:Nat)(rules:List zah)(R:zbg)(s:Nat):Option (zbg × Bool) :=
 match worksR fuel width R s rules with
 |none=>none
 |some ws=>if ws.length > 0 then zg3 width maxRows maxRounds fuel true ws R else some (R,true)
def zgg(fuel width maxRows maxRounds:Nat)(rules:List zah):Nat->Nat->zbg->Option (zbg × Bool)
 |0,_,R=>some (R,true)
 |n+1,s,R =>
  match zls fuel width maxRows maxRounds rules R s with
  |none=>none
  |some (R,false)=>some (R,false)
  |some (R,true)=>zgg fuel width maxRows maxRounds rules n (s+1) R
def zjy(maxRows:Nat):List zim->zbg->Option (zbg × Bool)
 |[],R=>some (R,true)
 |f::fs,R =>
  match zyp maxRows R f.pred f.row with
  |none=>none
  |some (R,false)=>some (R,false)
  |some (R,true)=>zjy maxRows fs R
def zfl(S:zsc):zbg:=zfa ⟨S.arities.map (zfv S.width),0,0,0,[]⟩
def z8z(fuel:Nat)(S:zsc)(maxRows maxRounds:Nat):Option (Option zbg) :=
 match zjy maxRows S.facts (zfl S) with
 |none=>none
 |some (_,false)=>some none
 |some (R,true)=>(zgg fuel S.width maxRows maxRounds S.rules S.arities.length 0 R).map fun x=>if x.2 then some x.1 else none
end Go.Proofs.YteampbddflhngabGreat
namespace Go.Proofs.YteampbddflhngabGreat
open Go.RowKit
variable {lo:Nat}
abbrev zay:=Nat × Nat × Nat
def NoT(t:TypeId):Prop:=t≠168/\t≠200/\t≠3
instance (t:TypeId):Decidable (NoT t):=by unfold NoT;infer_instance
def z9f(w:World)(b:Nat):Prop:=∃ c t,Box w b c t/\¬ NoT t
theorem zry{t:TypeId}(h:t=168∨t=200∨t=3):¬ NoT t:=by
 rintro⟨a,b,c⟩
 rcases h with h|h|h
 ·exact a h
 ·exact b h
 ·exact c h
theorem zef{w:World}{base:Nat}{e:TypeId}{size:Nat}{v:Value}{n:Nat}{xs:List Value}(h:w.ownsRow base e size v n xs){b:Nat}(hb:v.ownBlock=some b):∃ c,Box w b c e:=by
 obtain⟨_,⟨hv,_⟩|⟨g,cap,cur,hv,_,hh,_⟩⟩:=h
 ·subst hv;cases hb
 ·subst hv;simp only[Value.ownBlock,Option.some.injEq] at hb;subst hb;exact⟨_,hh⟩
theorem Box.type{w:World}{b:Nat}{c c':Array Value}{t t':TypeId}(h:Box w b c t)(h':Box w b c' t'):t=t':=by
 unfold Box at h h'
 rw[h] at h'
 simp at h'
 exact h'.2
theorem zat.typed{w:World}{tb:Nat}{T:zad}{fp:List Nat}(h:zat lo w tb T fp):∀ b∈fp,z9f w b:=by
 obtain⟨nv,ns,ht,rfl⟩:=h
 intro b hm
 simp only[fpT,List.mem_cons,List.mem_append] at hm
 rcases hm with hm|hm|hm
 ·subst hm;exact⟨_,_,ht.box,zry (Or.inl rfl)⟩
 ·obtain⟨c,hc⟩:=zef ht.nodes (zcx hm);exact⟨_,_,hc,zry (Or.inr (Or.inl rfl))⟩
 ·obtain⟨i,hi,e|e⟩:=zrx hm
  ·obtain⟨c,hc⟩:=zef (ht.leap i (by rw[← ht.len];exact hi) hi) (b:=b) (by rw[e];rfl);exact⟨_,_,hc,zry (Or.inr (Or.inr rfl))⟩
  ·obtain⟨c,hc⟩:=zef (ht.down i (by rw[← ht.len];exact hi) hi) (b:=b) (by rw[e];rfl);exact⟨_,_,hc,zry (Or.inr (Or.inr rfl))⟩
def zcv(lo:Nat)(w:World)(own:Nat->zay)(ρ:zay)(tb:Nat)(T:zad):Prop:=∃ fp,zat lo w tb T fp/\∀ b∈fp,own b=ρ
structure Mod (lo:Nat) (ok:TypeId->zay->Prop) (w:World) (own:Nat->zay) (w':World) (own':Nat->zay):Prop where
 old:∀ b,b < w.heap.size->own' b=own b
 save:∃ M,zas M w w'/\∀ b∈M,lo<=b/\b < w.heap.size/\∃ c t,Box w b c t/\ok t (own b)
def onT(rs:zay->Prop):TypeId->zay->Prop:=fun t ρ=>¬ NoT t/\rs ρ
def ze3(l:List TypeId):TypeId->zay->Prop:=fun t _=>t∈l
def orK(a b:TypeId->zay->Prop):TypeId->zay->Prop:=fun t ρ=>a t ρ∨b t ρ
theorem Mod.of{ok:TypeId->zay->Prop}{w w':World}(own:Nat->zay)(hb:Below w.heap.size w w'):Mod lo ok w own w' own:=⟨fun _ _=>rfl,[],zas.of hb,by simp⟩
theorem Mod.refl{ok:TypeId->zay->Prop}(w:World)(own:Nat->zay):Mod lo ok w own w own:=Mod.of own (Below.refl _ _)
theorem Mod.more{ok ok':TypeId->zay->Prop}{w w':World}{own own':Nat->zay}(h:Mod lo ok w own w' own')(hs:∀ t ρ,ok t ρ->ok' t ρ):Mod lo ok' w own w' own':=by
 obtain⟨h1,M,h2,h3⟩:=h
 refine⟨h1,M,h2,fun b hb=>?_⟩
 obtain⟨q1,q2,c,t,q3,q4⟩:=h3 b hb
 exact⟨q1,q2,c,t,q3,hs _ _ q4⟩
theorem Mod.size{ok:TypeId->zay->Prop}{w w':World}{own own':Nat->zay}(h:Mod lo ok w own w' own'):w.heap.size<=w'.heap.size:=by
 obtain⟨_,M,h2,_⟩:=h;exact h2.size
theorem Mod.trans{ok:TypeId->zay->Prop}{a b c:World}{o1 o2 o3:Nat->zay}(h:Mod lo ok a o1 b o2)(k:Mod lo ok b o2 c o3):Mod lo ok a o1 c o3:=by
 obtain⟨h1,M,h2,h3⟩:=h
 obtain⟨k1,N,k2,k3⟩:=k
 have hz:=h2.size
 refine⟨fun x hx=>(k1 x (by omega)).trans (h1 x hx),M++N.filter (· < a.heap.size),⟨k2.os.trans h2.os,k2.tape.trans h2.tape,k2.output.trans h2.output,Nat.le_trans hz k2.size,fun x hx hn=>?_⟩,fun x hx=>?_⟩
 ·simp only[List.mem_append,List.mem_filter,not_or,not_and,decide_eq_true_eq] at hn
  exact(k2.block x (by omega) fun hm=>hn.2 hm hx).trans (h2.block x hx hn.1)
 ·simp only[List.mem_append,List.mem_filter,decide_eq_true_eq] at hx
  rcases hx with hx|⟨hx,hlt⟩
  ·exact h3 x hx
  ·obtain⟨q1,q2,c,t,q4,q5⟩:=k3 x hx
   rw[h1 x hlt] at q5
   by_cases hm:x∈M
   ·exact h3 x hm
   ·exact⟨q1,hlt,c,t,by unfold Box at q4 ⊢;rw[← h2.block x hlt hm];exact q4,q5⟩
theorem Mod.ofSave{ok:TypeId->zay->Prop}{w w':World}(own:Nat->zay){M:List Nat}(hs:zas M w w')(hM:∀ b∈M,lo<=b/\b < w.heap.size/\∃ c t,Box w b c t/\ok t (own b)):Mod lo ok w own w' own:=⟨fun _ _=>rfl,M,hs,hM⟩
theorem Mod.set{ok:TypeId->zay->Prop}{w:World}(own:Nat->zay){b:Nat}{c:Array Value}{t:TypeId}(hb:Box w b c t)(hl:lo<=b)(ht:ok t (own b))(o:Nat)(u:Value):Mod lo ok w own (w.setCell ⟨b,o,none⟩ u) own :=
 Mod.ofSave own (zas.set _ _ _ _) (fun x hx=>by simp at hx;subst hx;exact⟨hl,hb.lt,_,_,hb,ht⟩)
theorem Box.mod{ok:TypeId->zay->Prop}{w w':World}{own own':Nat->zay}{b:Nat}{c:Array Value}{t:TypeId}(h:Box w b c t)(p:Mod lo ok w own w' own')(ht:¬ ok t (own b)):Box w' b c t:=by
 obtain⟨_,M,h2,h3⟩:=p
 refine h.save h2 fun hm=>?_
 obtain⟨_,_,c',t',q,hn⟩:=h3 b hm
 rw[h.type q] at ht
 exact ht hn
theorem zon{ok:TypeId->zay->Prop}{w w':World}{own own':Nat->zay}{base:Nat}{e:TypeId}{size:Nat}{v:Value}{n:Nat}{xs:List Value}(h:w.ownsRow base e size v n xs)(p:Mod lo ok w own w' own')(ht:∀ b,v.ownBlock=some b->¬ ok e (own b)):w'.ownsRow base e size v n xs:=by
 obtain⟨_,M,h2,h3⟩:=p
 refine zbl h h2 fun b hb hm=>?_
 obtain⟨c,hc⟩:=zef h hb
 obtain⟨_,_,c',t',q,hn⟩:=h3 b hm
 have:=ht b hb
 rw[hc.type q] at this
 exact this hn
theorem zee{ok:TypeId->zay->Prop}{w w':World}{own own':Nat->zay}{base:Nat}{e:TypeId}{size:Nat}{v:Value}{n:Nat}{xs:List Value}(h:w.ownsRow base e size v n xs)(p:Mod lo ok w own w' own')(ht:∀ ρ,¬ ok e ρ):w'.ownsRow base e size v n xs:=zon h p fun _ _=>ht _
theorem zat.mod{b0:Nat}{ok:TypeId->zay->Prop}{w w':World}{own own':Nat->zay}{tb:Nat}{T:zad}{fp:List Nat}(h:zat b0 w tb T fp)(p:Mod lo ok w own w' own')(hr:∀ b∈fp,∀ t,¬ NoT t->¬ ok t (own b)):zat b0 w' tb T fp:=by
 obtain⟨_,M,h4,h5⟩:=p
 refine h.save h4 fun b hb hm=>?_
 obtain⟨_,_,c,t,q,hn⟩:=h5 b hm
 obtain⟨c',t',q',hn'⟩:=h.typed b hb
 rw[q'.type q] at hn'
 exact hr b hb t hn' hn
theorem zcv.mod{ok:TypeId->zay->Prop}{w w':World}{own own':Nat->zay}{ρ:zay}{tb:Nat}{T:zad}(h:zcv lo w own ρ tb T)(p:Mod lo ok w own w' own')(hr:∀ t,¬ NoT t->¬ ok t ρ):zcv lo w' own' ρ tb T:=by
 obtain⟨fp,h1,h2⟩:=h
 exact⟨fp,h1.mod p fun b hb t ht=>by rw[h2 b hb];exact hr t ht,fun b hb=>(p.old b (h1.lt b hb).2).trans (h2 b hb)⟩
theorem zd3{rs:zay->Prop}{t:TypeId}(h:NoT t):∀ ρ,¬ onT rs t ρ:=fun _ q=>q.1 h
theorem zcv.onT{rs:zay->Prop}{w w':World}{own own':Nat->zay}{ρ:zay}{tb:Nat}{T:zad}(h:zcv lo w own ρ tb T)(p:Mod lo (onT rs) w own w' own')(hr:¬ rs ρ):zcv lo w' own' ρ tb T:=h.mod p fun _ _ q=>hr q.2
theorem zaq.mod{b0:Nat}{ok:TypeId->zay->Prop}{w w':World}{own own':Nat->zay}{v:Value}{ts:List zbn}(h:zaq b0 w v ts)(p:Mod lo ok w own w' own')(ht:∀ ρ,¬ ok 208 ρ):zaq b0 w' v ts:=⟨zee h.own p ht,h.len,h.num⟩
theorem zbo.mod{b0:Nat}{ok:TypeId->zay->Prop}{w w':World}{own own':Nat->zay}{v:Value}{ls:List zak}(h:zbo b0 w v ls)(p:Mod lo ok w own w' own')(ht:∀ ρ,¬ ok 208 ρ)(ht2:∀ ρ,¬ ok 147 ρ):zbo b0 w' v ls:=by
 obtain⟨ps,h1,h2,h3,h4⟩:=h
 exact⟨ps,zee h1 p ht2,h2,h3,fun k a b=>⟨(h4 k a b).1,(h4 k a b).2.1.mod p ht,(h4 k a b).2.2⟩⟩
theorem zdp.mod{b0:Nat}{ok:TypeId->zay->Prop}{w w':World}{own own':Nat->zay}{tv pv nv:Value}{r:zah}(h:zdp b0 w tv pv nv r)(p:Mod lo ok w own w' own')(ht:∀ ρ,¬ ok 208 ρ)(ht2:∀ ρ,¬ ok 147 ρ):zdp b0 w' tv pv nv r:=⟨h.head.mod p ht,h.plain.mod p ht ht2,h.nots.mod p ht ht2,h.small⟩
theorem RowsIn.mod{b0:Nat}{ok:TypeId->zay->Prop}{w w':World}{own own':Nat->zay}{v:Value}{rows:List zao}(h:RowsIn b0 w v rows)(p:Mod lo ok w own w' own')(ht:∀ ρ,¬ ok 116 ρ):RowsIn b0 w' v rows:=⟨zee h.1 p ht,h.2⟩
def ext(own:Nat->zay)(n:Nat)(ρ:zay):Nat->zay:=fun b=>if b < n then own b else ρ
theorem zgb(own:Nat->zay)(n:Nat)(ρ:zay)(b:Nat)(h:b < n):ext own n ρ b=own b:=by simp[ext,h]
theorem Wrote.mod{w w':World}{own:Nat->zay}{ρ:zay}{tb:Nat}{T T':zad}{fp fp':List Nat}(h:zat lo w tb T fp)(ho:∀ b∈fp,own b=ρ)(k:Wrote lo w w' tb T' fp fp') :
  zcv lo w' (ext own w.heap.size ρ) ρ tb T'/\Mod lo (onT (·=ρ)) w own w' (ext own w.heap.size ρ):=by
 refine⟨⟨fp',k.trie,fun b hb=>?_⟩,fun b hb=>by simp[ext,hb],fp,k.save,fun b hb=>⟨(h.lt b hb).1,(h.lt b hb).2,?_⟩⟩
 ·unfold ext
  split
  ·rcases k.fresh b hb with q|q
   ·exact ho b q
   ·omega
  ·rfl
 ·obtain⟨c,t,q1,q2⟩:=h.typed b hb
  exact⟨c,t,q1,q2,ho b hb⟩
theorem Mod.extNew{ok:TypeId->zay->Prop}{w w':World}(own:Nat->zay)(ρ:zay)(hb:Below w.heap.size w w'):Mod lo ok w own w' (ext own w.heap.size ρ):=⟨fun b h=>by simp[ext,h],[],zas.of hb,by simp⟩
theorem zat.low{a b:Nat}{w:World}{tb:Nat}{T:zad}{fp:List Nat}(h:zat b w tb T fp)(hl:a<=b):zat a w tb T fp:=by
 obtain⟨nv,ns,h1,rfl⟩:=h
 exact⟨nv,ns,⟨Nat.le_trans hl h1.low,h1.box,zbf h1.nodes hl,h1.len,fun i a b=>zbf (h1.leap i a b) hl,fun i a b=>zbf (h1.down i a b) hl,h1.apart,h1.wide,h1.many,h1.deep,h1.few⟩,rfl⟩
theorem zat.new{w w':World}(own:Nat->zay)(ρ:zay){tb:Nat}{T:zad}{fp:List Nat}(h:zat w.heap.size w' tb T fp)(hl:lo<=w.heap.size):zcv lo w' (ext own w.heap.size ρ) ρ tb T :=
 ⟨fp,h.low hl,fun b hb=>by have:=(h.lt b hb).1;simp[ext,Nat.not_lt.2 this]⟩
theorem zcv.below{w w':World}{own:Nat->zay}{ρ:zay}{tb:Nat}{T:zad}(h:zcv lo w own ρ tb T)(hb:Below w.heap.size w w'):zcv lo w' own ρ tb T:=h.mod (Mod.of (ok:=fun _ _=>False) own hb) (fun _ _=>id)
theorem zcv.set{w:World}{own:Nat->zay}{ρ:zay}{tb:Nat}{T:zad}(h:zcv lo w own ρ tb T){b:Nat}{c:Array Value}{t:TypeId}(hb:Box w b c t)(ht:NoT t)(o:Nat)(u:Value):zcv lo (w.setCell ⟨b,o,none⟩ u) own ρ tb T:=by
 obtain⟨fp,h1,h2⟩:=h
 refine⟨fp,h1.save (zas.set _ _ _ _) fun x hx hm=>?_,h2⟩
 simp at hm
 subst hm
 obtain⟨c',t',q,hn⟩:=h1.typed x hx
 rw[q.type hb] at hn
 exact hn ht
def OfT(w:World)(T:TypeId)(M:List Nat):Prop:=∀ b∈M,∃ c,Box w b c T
theorem OfT.own{w:World}{base:Nat}{e:TypeId}{size:Nat}{v:Value}{n:Nat}{xs:List Value}(h:w.ownsRow base e size v n xs):OfT w e v.ownBlock.toList:=fun _ hb=>zef h (zcx hb)
theorem OfT.box{w:World}{b:Nat}{c:Array Value}{T:TypeId}(h:Box w b c T):OfT w T [b]:=fun x hx=>by simp at hx;subst hx;exact⟨c,h⟩
theorem zaj{w w':World}{base:Nat}{e T:TypeId}{size:Nat}{v:Value}{n:Nat}{xs:List Value}{M:List Nat}(h:w.ownsRow base e size v n xs)(hs:zas M w w')(hM:OfT w T M)(hT:e≠T):w'.ownsRow base e size v n xs :=
 zbl h hs fun b hb hm=>by
  obtain⟨c,hc⟩:=hM b hm
  obtain⟨c',hc'⟩:=zef h hb
  exact hT (hc'.type hc)
theorem Box.saveT{w w':World}{b:Nat}{c:Array Value}{e T:TypeId}{M:List Nat}(h:Box w b c e)(hs:zas M w w')(hM:OfT w T M)(hT:e≠T):Box w' b c e :=
 h.save hs fun hm=>by
  obtain⟨c',hc'⟩:=hM b hm
  exact hT (h.type hc')
theorem zaq.saveT{b0:Nat}{w w':World}{v:Value}{ts:List zbn}{T:TypeId}{M:List Nat}(h:zaq b0 w v ts)(hs:zas M w w')(hM:OfT w T M)(hT:208≠T):zaq b0 w' v ts:=⟨zaj h.own hs hM hT,h.len,h.num⟩
theorem zbo.saveT{b0:Nat}{w w':World}{v:Value}{ls:List zak}{T:TypeId}{M:List Nat}(h:zbo b0 w v ls)(hs:zas M w w')(hM:OfT w T M)(hT:208≠T)(hn:∀ b,v.ownBlock=some b->b∉M):zbo b0 w' v ls:=by
 obtain⟨ps,h1,h2,h3,h4⟩:=h
 exact⟨ps,zbl h1 hs hn,h2,h3,fun k a b=>⟨(h4 k a b).1,(h4 k a b).2.1.saveT hs hM hT,(h4 k a b).2.2⟩⟩
theorem zbo.saveTT{b0:Nat}{w w':World}{v:Value}{ls:List zak}{T:TypeId}{M:List Nat}(h:zbo b0 w v ls)(hs:zas M w w')(hM:OfT w T M)(hT:208≠T)(hT2:147≠T):zbo b0 w' v ls:=by
 obtain⟨ps,h1,h2,h3,h4⟩:=h
 exact⟨ps,zaj h1 hs hM hT2,h2,h3,fun k a b=>⟨(h4 k a b).1,(h4 k a b).2.1.saveT hs hM hT,(h4 k a b).2.2⟩⟩
theorem zdp.saveT{b0:Nat}{w w':World}{tv pv nv:Value}{r:zah}{T:TypeId}{M:List Nat}(h:zdp b0 w tv pv nv r)(hs:zas M w w')(hM:OfT w T M)(hT:208≠T)(hT2:147≠T):zdp b0 w' tv pv nv r:=⟨h.head.saveT hs hM hT,h.plain.saveTT hs hM hT hT2,h.nots.saveTT hs hM hT hT2,h.small⟩
theorem zaq.low{a b:Nat}{w:World}{v:Value}{ts:List zbn}(h:zaq b w v ts)(hl:a<=b):zaq a w v ts:=⟨zbf h.own hl,h.len,h.num⟩
theorem zbo.low{a b:Nat}{w:World}{v:Value}{ls:List zak}(h:zbo b w v ls)(hl:a<=b):zbo a w v ls:=by
 obtain⟨ps,h1,h2,h3,h4⟩:=h
 exact⟨ps,zbf h1 hl,h2,h3,fun k a b=>⟨(h4 k a b).1,(h4 k a b).2.1.low hl,(h4 k a b).2.2⟩⟩
theorem zdp.low{a b:Nat}{w:World}{tv pv nv:Value}{r:zah}(h:zdp b w tv pv nv r)(hl:a<=b):zdp a w tv pv nv r:=⟨h.head.low hl,h.plain.low hl,h.nots.low hl,h.small⟩
theorem Box.up{w:World}{b:Nat}{c:Array Value}{T:TypeId}(h:Box w b c T)(o:Obj):Box (w.alloc o) b c T:=h.below ((Below.refl _ _).alloc (Nat.le_refl _) o)
theorem Box.at'{w:World}{b b':Nat}{c:Array Value}{T:TypeId}(h:Box w b c T)(e:b=b'):Box w b' c T:=e ▸ h
theorem Box.carry{W w1:World}{b:Nat}{c:Array Value}{T:TypeId}{G:Prop}(h:Box W b c T)(hb:Below W.heap.size W w1)(k:Box w1 b c T->G):G:=k (h.below hb)
set_option maxRecDepth 100000
set_option maxHeartbeats 4000000
theorem zcv.saveT{w w':World}{own:Nat->zay}{ρ:zay}{tb:Nat}{T:zad}{t:TypeId}{M:List Nat}(h:zcv lo w own ρ tb T)(hs:zas M w w')(hM:OfT w t M)(ht:NoT t):zcv lo w' own ρ tb T:=by
 obtain⟨fp,h1,h2⟩:=h
 refine⟨fp,h1.save hs fun x hx hm=>?_,h2⟩
 obtain⟨c,hc⟩:=hM x hm
 obtain⟨c',t',q,hn⟩:=h1.typed x hx
 rw[q.type hc] at hn
 exact hn ht
theorem z7b(w:World)(own:Nat->zay)(ρ:zay)(tb:Nat)(T:zad)(x y z m:Nat)(h:zcv lo w own ρ tb T)(hok:okT T=true) :
  Calls Tryz.prog 104 #[.pointer (some ⟨tb,0,none⟩),.agg #[.int .i64 x,.int .i64 y,.int .i64 z],.int .i64 m] w fun e w'=>e=.returned (.bool (zfo T [x,y,z] m).2)/\zcv lo w' (ext own w.heap.size ρ) ρ tb (zfo T [x,y,z] m).1/\Mod lo (onT (·=ρ)) w own w' (ext own w.heap.size ρ):=by
 obtain⟨fp,h1,h2⟩:=h
 simp only[okT,Bool.and_eq_true,decide_eq_true_eq] at hok
 refine(z7c w tb T fp x y z m h1 hok.1 hok.2).mono ?_
 rintro e w' ⟨rfl,fp',hw⟩
 exact⟨rfl,hw.mod h1 h2⟩
theorem z4j(w:World)(own:Nat->zay)(ρ:zay)(tb:Nat)(T:zad)(n:Nat)(rs:List zao)(h:zcv lo w own ρ tb T)(hr:rowsG n T=some rs) :
  Calls Tryz.prog 51 #[.pointer (some ⟨tb,0,none⟩)] w fun e w'=>∃ v,e=.returned v/\RowsIn w.heap.size w' v rs/\Below w.heap.size w w':=by
 obtain⟨fp,h1,_⟩:=h
 unfold rowsG at hr
 cases hf:zr4 n T with
 |none=>rw[hf] at hr;cases hr
 |some rs' =>
  rw[hf] at hr
  simp only at hr
  split at hr
  ·simp only[Option.some.injEq] at hr
   subst hr
   exact zyd w tb T fp h1 n rs' hf (by assumption)
  ·cases hr
theorem RowsIn.cell{b0:Nat}{w:World}{v:Value}{rs:List zao}(h:RowsIn b0 w v rs)(k:Nat)(hk:k < rs.length):∃ g cap x y z,v=.slice (some ⟨g,0,none⟩) rs.length cap/\g < w.heap.size/\rs[k]=[x,y,z]/\w.cell? ⟨g,k * 3,none⟩=some (.int .i64 (x:Nat))/\w.cell? ⟨g,k * 3+1,none⟩=some (.int .i64 (y:Nat))/\w.cell? ⟨g,k * 3+2,none⟩=some (.int .i64 (z:Nat)):=by
 obtain⟨h1,h2⟩:=h
 obtain⟨g,cap,hv,_,hg,hc⟩:=zal h1 (by omega)
 obtain⟨x,y,z,e⟩:∃ x y z,rs[k]=[x,y,z]:=by
  have:=h2 rs[k] (List.getElem_mem hk)
  match hq:rs[k],this with
  |[x,y,z],_=>exact⟨x,y,z,rfl⟩
 have key:∀(rs:List zao) (k:Nat) (hk:k < rs.length),(∀ r∈rs,r.length=3)->rs[k]=[x,y,z]->(zda rs)[k * 3]?=some (.int .i64 (x:Nat))/\(zda rs)[k * 3+1]?=some (.int .i64 (y:Nat))/\(zda rs)[k * 3+2]?=some (.int .i64 (z:Nat)):=by
  intro rs
  induction rs with
  |nil=>intro k hk;simp at hk
  |cons r l ih =>
   intro k hk ha he
   match k,hk,he with
   |0,_,he=>simp only[List.getElem_cons_zero] at he;subst he;simp[zda,ivN]
   |k+1,hk,he =>
    have h3:=ha r (by simp)
    match hr:r,h3 with
    |[a,b,c],_ =>
     have:=ih k (by simpa using hk) (fun q hq=>ha q (by simp[hq])) (by simpa using he)
     simp only[zda,List.flatMap_cons] at this ⊢
     rw[show(k+1) * 3=k * 3+1+1+1 from by omega,show k * 3+1+1+1+1=k * 3+1+1+1+1 from rfl,show k * 3+1+1+1+2=k * 3+2+1+1+1 from by omega]
     simpa using this
 obtain⟨q0,q1,q2⟩:=key rs k hk h2 e
 exact⟨g,cap,x,y,z,hv,hg,e,hc _ _ q0,hc _ _ q1,hc _ _ q2⟩
structure zf6 where
 tv:Value
 bb:Nat
 fb:Nat
 ab:Nat
def pt(b:Nat):Value:=.pointer (some ⟨b,0,none⟩)
def zc1(wd:Nat)(V:zcr)(P:zf6):List Value:=[.int .i64 (V.lit.pred:Nat),P.tv,.int .i64 (wd:Nat),pt P.bb,pt P.fb,pt P.ab]
structure zf7 (lo:Nat) (w:World) (own:Nat->zay) (k i:Nat) (V:zcr) (P:zf6):Prop where
 terms:zaq lo w P.tv V.lit.terms
 before:zcv lo w own (k+1,i,0) P.bb V.before
 fresh:zcv lo w own (k+1,i,1) P.fb V.fresh
 all:zcv lo w own (k+1,i,2) P.ab V.all
theorem zf7.mod{ok:TypeId->zay->Prop}{w w':World}{own own':Nat->zay}{k i:Nat}{V:zcr}{P:zf6}(h:zf7 lo w own k i V P)(p:Mod lo ok w own w' own')(hr:∀ j t,¬ NoT t->¬ ok t (k+1,i,j))(ht:∀ ρ,¬ ok 208 ρ):zf7 lo w' own' k i V P :=
 ⟨h.terms.mod p ht,h.before.mod p (hr 0),h.fresh.mod p (hr 1),h.all.mod p (hr 2)⟩
theorem zf7.below{w w':World}{own:Nat->zay}{k i:Nat}{V:zcr}{P:zf6}(h:zf7 lo w own k i V P)(hb:Below w.heap.size w w'):zf7 lo w' own k i V P:=h.mod (Mod.of (ok:=fun _ _=>False) own hb) (fun _ _ _=>id) (fun _=>id)
theorem zf7.saveT{w w':World}{own:Nat->zay}{k i:Nat}{V:zcr}{P:zf6}{t:TypeId}{M:List Nat}(h:zf7 lo w own k i V P)(hs:zas M w w')(hM:OfT w t M)(ht:NoT t)(hT:208≠t):zf7 lo w' own k i V P:=⟨h.terms.saveT hs hM hT,h.before.saveT hs hM ht,h.fresh.saveT hs hM ht,h.all.saveT hs hM ht⟩
def z7v(lo:Nat)(w:World)(own:Nat->zay)(k i wd:Nat)(tv:Value)(l:zak)(e:Ending)(w':World):Prop:=∃ P own',P.tv=tv/\e=.returned (.agg (zc1 wd (zex wd l) P).toArray)/\zf7 lo w' own' k i (zex wd l) P/\(∀ b,b < w.heap.size->own' b=own b)/\Below w.heap.size w w'
theorem zs6(l:zak):zbb l<=5:=by
 unfold zbb
 have:=List.countP_le_length (p:=zde l) (l:=List.range 5)
 simpa using this
theorem zwd(w:World)(own:Nat->zay)(k i:Nat)(l:zak)(tv:Value)(wd:Nat)(h:zaq lo w tv l.terms)(hl:lo<=w.heap.size)(hwd:wd<=1000) :
  Calls Tryz.prog 134 #[.agg #[.int .i64 (l.pred:Nat),tv],.int .i64 wd] w fun e w'=>z7v lo w own k i wd tv l e w':=by
 obtain⟨ao,cap,rfl⟩:=h.shape
 have HD:Hid (∀ W,Below w.heap.size w W->Calls Tryz.prog 141 #[.agg #[.int .i64 (l.pred:Nat),.slice ao l.terms.length cap]] W fun e w'=>e=.returned (.int .i64 (zbb l:Nat))/\Below W.heap.size W w'):=fun W hW=>zs7 W _ l.pred l.terms (h.below hW)
 have HT:Hid (zaq lo w (.slice ao l.terms.length cap) l.terms):=h
 have HVN:Hid (zex wd l=⟨l,zfv wd (zbb l),zfv wd (zbb l),zfv wd (zbb l)⟩):=rfl
 have hdl:=zs6 l
 have HN:Hid (∀ W,Calls Tryz.prog 74 #[.int .i64 wd,.int .i64 (zbb l:Nat)] W fun e w'=>∃ tb fp,e=.returned (.pointer (some ⟨tb,0,none⟩))/\zat W.heap.size w' tb (zfv wd (zbb l)) fp/\Below W.heap.size W w'):=fun W=>zr8 W wd (zbb l) hwd (by omega)
 have HL:Hid (lo<=w.heap.size):=hl
 clear h hl hdl
 have hb5:=Box.new ((w.alloc (.cells #[.int .i64 (l.pred:Nat),.slice ao l.terms.length cap] 147)).alloc (.cells #[.int .i64 0,.slice none 0 0,.int .i64 0,.pointer none,.pointer none,.pointer none] 223)) #[.int .i64 (l.pred:Nat),.slice ao l.terms.length cap,.int .i64 (wd:Nat),.pointer none,.pointer none,.pointer none] 223
 have hb4:=(Box.new (w.alloc (.cells #[.int .i64 (l.pred:Nat),.slice ao l.terms.length cap] 147)) #[.int .i64 0,.slice none 0 0,.int .i64 0,.pointer none,.pointer none,.pointer none] 223).below ((Below.refl _ _).alloc (Nat.le_refl _) (.cells #[.int .i64 (l.pred:Nat),.slice ao l.terms.length cap,.int .i64 (wd:Nat),.pointer none,.pointer none,.pointer none] 223))
 simp only[World.size_alloc] at hb5 hb4
 generalize zbb l=dl at *
 go_enter Tryz.func134,Tryz.ntmps134
 go_upto_region 3 with (first|(go_at_call 141;refine(HD.out _ (by exact(by go_grown))).mono ?_;rintro e w1 ⟨rfl,hb1⟩;have hB1:Below w.heap.size w w1:=(zae (by go_grown) hb1 (Nat.le_refl _));have h51:=hb5.below hb1;have h41:=hb4.below hb1))
 clear hb5 hb4 hb1
 have hl1:lo<=w1.heap.size:=by have:=HL.out;have:=hB1.size;omega
 obtain⟨h5c,h5f⟩:=h51.rules
 have h5l:=h51.lt
 have hz1:=hB1.size
 have hT1:Hid (zaq lo w1 _ l.terms):=HT.out.below hB1
 go_upto_region 4 with (first|(go_at_call 74;refine(HN.out _).mono ?_;rintro e w2 ⟨t1,fp1,rfl,ht1,hb2⟩;have h52:=h51.below hb2;have h42:=h41.below hb2;obtain⟨h52c,h52f⟩:=h52.rules;have h52l:=h52.lt))
 have hA2:=(zat.new own (k+1,i,0) ht1 hl1).set h52 (by decide) 3 (pt t1)
 have hs2:zas [w.heap.size+1+1] w2 (w2.setCell ⟨w.heap.size+1+1,3,none⟩ (pt t1)):=zas.set _ _ _ _
 have hT2:Hid (zaq lo _ _ l.terms):=(hT1.out.below hb2).saveT hs2 (OfT.box h52) (by decide)
 have h53:Box (w2.setCell ⟨w.heap.size+1+1,3,none⟩ (pt t1)) (w.heap.size+1+1) #[.int .i64 (l.pred:Nat),.slice ao l.terms.length cap,.int .i64 (wd:Nat),.pointer (some ⟨t1,0,none⟩),.pointer none,.pointer none] 223:=by have q:=h52.set 3 (pt t1);simpa [pt] using q
 have h43:=h42.set_ne (show w.heap.size+1≠w.heap.size+1+1 by omega) 3 (pt t1)
 have hB3:Below w.heap.size w (w2.setCell ⟨w.heap.size+1+1,3,none⟩ (pt t1)):=(zae hB1 hb2 (Nat.le_refl _)).setCell (by simp;omega) _
 have hz2:(w2.setCell ⟨w.heap.size+1+1,3,none⟩ (pt t1)).heap.size=w2.heap.size:=by simp[World.setCell]
 have hlow2:w1.heap.size<=w2.heap.size:=hb2.size
 generalize hown1:ext own w1.heap.size (k+1,i,0)=own1 at *
 have hold1:∀ b,b < w.heap.size->own1 b=own b:=fun b hb=>by rw[← hown1];exact zgb _ _ _ _ (by omega)
 have hpt:pt t1=.pointer (some ⟨t1,0,none⟩):=rfl
 rw[hpt] at hA2 hs2 hT2 h53 h43 hB3 hz2
 generalize w2.setCell ⟨w.heap.size+1+1,3,none⟩ (.pointer (some ⟨t1,0,none⟩))=w3 at *
 clear hown1 ht1 hb2 h52 h42 h52c h52f h52l h5c h5f h5l h51 h41 hT1 hs2 hpt
 have hl3:lo<=w3.heap.size:=by omega
 obtain⟨h5c,h5f⟩:=h53.rules
 have h5l:=h53.lt
 go_upto_region 5 with (first|(go_at_call 74;refine(HN.out _).mono ?_;rintro e w4 ⟨t2,fp2,rfl,ht2,hb4⟩;have h54:=h53.below hb4;have h44:=h43.below hb4;obtain⟨h54c,h54f⟩:=h54.rules;have h54l:=h54.lt))
 have hA4:=(hA2.mod (Mod.extNew (ok:=fun _ _=>False) own1 (k+1,i,1) hb4) (fun _ _=>id)).set h54 (by decide) 4 (.pointer (some ⟨t2,0,none⟩))
 have hF4:=(zat.new own1 (k+1,i,1) ht2 hl3).set h54 (by decide) 4 (.pointer (some ⟨t2,0,none⟩))
 have hs4:zas [w.heap.size+1+1] w4 (w4.setCell ⟨w.heap.size+1+1,4,none⟩ (.pointer (some ⟨t2,0,none⟩))):=zas.set _ _ _ _
 have hT4:Hid (zaq lo _ _ l.terms):=(hT2.out.below hb4).saveT hs4 (OfT.box h54) (by decide)
 have h55:Box (w4.setCell ⟨w.heap.size+1+1,4,none⟩ (.pointer (some ⟨t2,0,none⟩))) (w.heap.size+1+1) #[.int .i64 (l.pred:Nat),.slice ao l.terms.length cap,.int .i64 (wd:Nat),.pointer (some ⟨t1,0,none⟩),.pointer (some ⟨t2,0,none⟩),.pointer none] 223:=by have q:=h54.set 4 (.pointer (some ⟨t2,0,none⟩));simpa using q
 have h45:=h44.set_ne (show w.heap.size+1≠w.heap.size+1+1 by omega) 4 (.pointer (some ⟨t2,0,none⟩))
 have hB5:Below w.heap.size w (w4.setCell ⟨w.heap.size+1+1,4,none⟩ (.pointer (some ⟨t2,0,none⟩))):=(zae hB3 hb4 (Nat.le_refl _)).setCell (by simp;omega) _
 have hz4:(w4.setCell ⟨w.heap.size+1+1,4,none⟩ (.pointer (some ⟨t2,0,none⟩))).heap.size=w4.heap.size:=by simp[World.setCell]
 have hlow4:w3.heap.size<=w4.heap.size:=hb4.size
 generalize hown2:ext own1 w3.heap.size (k+1,i,1)=own2 at *
 have hold2:∀ b,b < w.heap.size->own2 b=own b:=fun b hb=>by rw[← hown2,zgb _ _ _ _ (by omega)];exact hold1 b hb
 generalize w4.setCell ⟨w.heap.size+1+1,4,none⟩ (.pointer (some ⟨t2,0,none⟩))=w5 at *
 clear hown2 ht2 hb4 h54 h44 h54c h54f h54l h5c h5f h5l h53 h43 hA2 hT2 hs4 hB3
 have hl5:lo<=w5.heap.size:=by omega
 obtain⟨h5c,h5f⟩:=h55.rules
 have h5l:=h55.lt
 go_upto_region 6 with (first|(go_at_call 74;refine(HN.out _).mono ?_;rintro e w6 ⟨t3,fp3,rfl,ht3,hb6⟩;have h56:=h55.below hb6;have h46:=h45.below hb6;obtain⟨h56c,h56f⟩:=h56.rules;have h56l:=h56.lt))
 have hA6:=(hA4.mod (Mod.extNew (ok:=fun _ _=>False) own2 (k+1,i,2) hb6) (fun _ _=>id)).set h56 (by decide) 5 (.pointer (some ⟨t3,0,none⟩))
 have hF6:=(hF4.mod (Mod.extNew (ok:=fun _ _=>False) own2 (k+1,i,2) hb6) (fun _ _=>id)).set h56 (by decide) 5 (.pointer (some ⟨t3,0,none⟩))
 have hL6:=(zat.new own2 (k+1,i,2) ht3 hl5).set h56 (by decide) 5 (.pointer (some ⟨t3,0,none⟩))
 have hs6:zas [w.heap.size+1+1] w6 (w6.setCell ⟨w.heap.size+1+1,5,none⟩ (.pointer (some ⟨t3,0,none⟩))):=zas.set _ _ _ _
 have hT6:Hid (zaq lo _ _ l.terms):=(hT4.out.below hb6).saveT hs6 (OfT.box h56) (by decide)
 have h57:Box (w6.setCell ⟨w.heap.size+1+1,5,none⟩ (.pointer (some ⟨t3,0,none⟩))) (w.heap.size+1+1) #[.int .i64 (l.pred:Nat),.slice ao l.terms.length cap,.int .i64 (wd:Nat),.pointer (some ⟨t1,0,none⟩),.pointer (some ⟨t2,0,none⟩),.pointer (some ⟨t3,0,none⟩)] 223:=by have q:=h56.set 5 (.pointer (some ⟨t3,0,none⟩));simpa using q
 have h47:=h46.set_ne (show w.heap.size+1≠w.heap.size+1+1 by omega) 5 (.pointer (some ⟨t3,0,none⟩))
 have hB7:Below w.heap.size w (w6.setCell ⟨w.heap.size+1+1,5,none⟩ (.pointer (some ⟨t3,0,none⟩))):=(zae hB5 hb6 (Nat.le_refl _)).setCell (by simp;omega) _
 generalize hown3:ext own2 w5.heap.size (k+1,i,2)=own3 at *
 have hold3:∀ b,b < w.heap.size->own3 b=own b:=fun b hb=>by rw[← hown3,zgb _ _ _ _ (by omega)];exact hold2 b hb
 generalize w6.setCell ⟨w.heap.size+1+1,5,none⟩ (.pointer (some ⟨t3,0,none⟩))=w7 at *
 clear hown3 ht3 hb6 h56 h46 h56c h56f h56l h5c h5f h5l h55 h45 hA4 hF4 hT4 hs6 hB5
 obtain⟨h5c,h5f⟩:=h57.rules
 have h5l:=h57.lt
 obtain⟨h4c,h4f⟩:=h47.rules
 have h4l:=h47.lt
 go_wp2
 (try simp only[Exit.inBlock,Exit.then])
 have hs8:zas [w.heap.size+1] w7 ((((((w7.setCell ⟨w.heap.size+1,0,none⟩ (.int .i64 (l.pred:Nat))).setCell ⟨w.heap.size+1,1,none⟩ (.slice ao l.terms.length cap)).setCell ⟨w.heap.size+1,2,none⟩ (.int .i64 (wd:Nat))).setCell ⟨w.heap.size+1,3,none⟩ (.pointer (some ⟨t1,0,none⟩))).setCell ⟨w.heap.size+1,4,none⟩ (.pointer (some ⟨t2,0,none⟩))).setCell ⟨w.heap.size+1,5,none⟩ (.pointer (some ⟨t3,0,none⟩))):=(((((zas.set _ _ _ _).trans (zas.set _ _ _ _)).trans (zas.set _ _ _ _)).trans (zas.set _ _ _ _)).trans (zas.set _ _ _ _)).trans (zas.set _ _ _ _)
 have hMr:=OfT.box h47
 refine bodyPost_ret (v:=.agg #[.int .i64 (l.pred:Nat),.slice ao l.terms.length cap,.int .i64 (wd:Nat),.pointer (some ⟨t1,0,none⟩),.pointer (some ⟨t2,0,none⟩),.pointer (some ⟨t3,0,none⟩)]) (by simp[results,Tryz.results134,go_sem,h4c]) rfl ⟨⟨.slice ao l.terms.length cap,t1,t2,t3⟩,own3,rfl,by rw[HVN.out];rfl,?_,hold3,?_⟩
 ·rw[HVN.out]
  exact⟨hT6.out.saveT hs8 hMr (by decide),hA6.saveT hs8 hMr (by decide),hF6.saveT hs8 hMr (by decide),hL6.saveT hs8 hMr (by decide)⟩
 ·exact(((((hB7.setCell (by simp) _).setCell (by simp) _).setCell (by simp) _).setCell (by simp) _).setCell (by simp) _).setCell (by simp) _
end Go.Proofs.YteampbddflhngabGreat
