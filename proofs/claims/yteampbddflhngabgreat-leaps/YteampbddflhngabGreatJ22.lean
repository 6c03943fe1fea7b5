import Derived.Test.YteampbddflhngabGreatJ21
import Derived.Test.YteampbddflhngabGreatJ18
import Derived.Test.YteampbddflhngabGreatJ20
import Derived.Deep.MidRow

namespace Go.Proofs.YteampbddflhngabGreat
set_option maxRecDepth 100000
set_option maxHeartbeats 4000000
open Go.RowKit
variable {lo:Nat}
def zcz(W:World)(b:Nat):Prop:=∃ c:Array Value,Box W b c 232/\c.size=28
def zvk(W:World)(b:Nat)(cs:List Value):World:=W.setCells b 0 cs
theorem Box.sets{T:TypeId}{b:Nat}:∀(vs:List Value) (o:Nat) (w:World) (l:List Value),Box w b l.toArray T->o+vs.length=l.length->Box (w.setCells b o vs) b (l.take o++vs).toArray T
 |[],o,w,l,h,e=>by
  simp at e
  subst e
  simpa [World.setCells] using h
 |v::r,o,w,l,h,e=>by
  simp only[List.length_cons] at e
  have hq:Box (w.setCell ⟨b,o,none⟩ v) b (l.set o v).toArray T:=by simpa using h.set o v
  have:=Box.sets r (o+1) _ _ hq (by simp;omega)
  rw[World.setCells]
  rw[show l.take o++v::r=(l.set o v).take (o+1)++r from by
   rw[List.take_set,List.take_succ_eq_append_getElem (by omega:o < l.length),List.set_append_right _ _ (by simp;omega)]
   simp[Nat.min_eq_left (show o<=l.length by omega)]]
  exact this
theorem zi4{W:World}{b:Nat}{cs:List Value}(h:zcz W b)(hl:cs.length=28):Box (zvk W b cs) b cs.toArray 232:=by
 obtain⟨c,h1,h2⟩:=h
 have:=Box.sets cs 0 W c.toList (by simpa using h1) (by simp;omega)
 simpa [zvk] using this
theorem zao.sets(b:Nat):∀(vs:List Value) (o:Nat) (w:World),zao [b] w (w.setCells b o vs)
 |[],_,w=>zao.refl _ w
 |v::r,o,w=>(zao.set w b o v).trans (zao.sets b r (o+1) _)
theorem ziv(W:World)(b:Nat)(cs:List Value):zao [b] W (zvk W b cs):=zao.sets b cs 0 W
theorem zcu(W:World)(b:Nat)(cs:List Value)(b' o:Nat)(h:b'≠b):(zvk W b cs).cell? ⟨b',o,none⟩=W.cell? ⟨b',o,none⟩:=World.cell?_setCells_out b cs 0 W _ fun e=>absurd e h
theorem zcz.there{W:World}{b:Nat}(h:zcz W b):W.there b 0 28:=fun j hj=>by
 obtain⟨c,h1,h2⟩:=h
 obtain⟨hc,hf⟩:=h1.rules
 rw[Nat.zero_add]
 exact⟨by rw[hc,Array.getElem?_eq_getElem (by omega)];rfl,hf j⟩
def bj(p vs bk:Int)(ta sa:Option Addr)(tn tc sn sc:Nat):List Value:=[.int .i64 p,.slice ta tn tc,.int .i64 vs,.slice sa sn sc,.slice none 0 0,.slice none 0 0,.slice none 0 0,.slice none 0 0,.slice none 0 0,.slice none 0 0,.int .i64 0,.int .i64 0,.int .i64 0,.int .i64 0,.int .i64 0,.int .i64 bk,.int .i64 0,.int .i64 0,.int .i64 0,.int .i64 0,.int .i64 0,.int .i64 0,.int .i64 0,.int .i64 0,.int .i64 0,.int .i64 0,.int .i64 0,.int .i64 0]
theorem zm1(p vs bk:Int)(ta sa:Option Addr)(tn tc sn sc:Nat):Value.agg #[.int .i64 p,.slice ta tn tc,.int .i64 vs,.slice sa sn sc,.slice none 0 0,.slice none 0 0,.slice none 0 0,.slice none 0 0,.slice none 0 0,.slice none 0 0,.int .i64 0,.int .i64 0,.int .i64 0,.int .i64 0,.int .i64 0,.int .i64 bk,.int .i64 0,.int .i64 0,.int .i64 0,.int .i64 0,.int .i64 0,.int .i64 0,.int .i64 0,.int .i64 0,.int .i64 0,.int .i64 0,.int .i64 0,.int .i64 0]=.agg (bj p vs bk ta sa tn tc sn sc).toArray:=rfl
theorem z7a(p vs bk:Int)(ta sa:Option Addr)(tn tc sn sc:Nat):(bj p vs bk ta sa tn tc sn sc).length=28:=rfl
theorem z5y(p vs bk:Int)(ta sa:Option Addr)(tn tc sn sc:Nat)(q:Int):(bj p vs bk ta sa tn tc sn sc).set 0 (.int .i64 q)=bj q vs bk ta sa tn tc sn sc:=rfl
theorem z5z(p vs bk:Int)(ta sa:Option Addr)(tn tc sn sc:Nat)(a:Option Addr)(n c:Nat):(bj p vs bk ta sa tn tc sn sc).set 1 (.slice a n c)=bj p vs bk a sa n c sn sc:=rfl
theorem z6a(p vs bk:Int)(ta sa:Option Addr)(tn tc sn sc:Nat)(q:Int):(bj p vs bk ta sa tn tc sn sc).set 2 (.int .i64 q)=bj p q bk ta sa tn tc sn sc:=rfl
theorem z6b(p vs bk:Int)(ta sa:Option Addr)(tn tc sn sc:Nat)(a:Option Addr)(n c:Nat):(bj p vs bk ta sa tn tc sn sc).set 3 (.slice a n c)=bj p vs bk ta a tn tc n c:=rfl
theorem z3h(p vs bk:Int)(ta sa:Option Addr)(tn tc sn sc:Nat)(q:Int):(bj p vs bk ta sa tn tc sn sc).set 15 (.int .i64 q)=bj p vs q ta sa tn tc sn sc:=rfl
theorem zcz.lt{W:World}{b:Nat}(h:zcz W b):b < W.heap.size:=by obtain⟨c,h1,_⟩:=h;exact h1.lt
theorem Tryz.storeJ(W:World)(b:Nat)(p vs bk:Int)(ta sa:Option Addr)(tn tc sn sc:Nat)(h:zcz W b):(storeCells ⟨b,0,none⟩ (bj p vs bk ta sa tn tc sn sc)).run Tryz.prog W=.ok () (zvk W b (bj p vs bk ta sa tn tc sn sc)) :=
 run_storeCells_cells (P:=Tryz.prog) b 0 (bj p vs bk ta sa tn tc sn sc) 0 W (fun j hj=>(h.there j hj).1) (fun j hj=>(h.there j hj).2) (by simp[bj,Value.oneCell'])
theorem zp8(w:World)(b:Nat)(p vs bk:Int)(ta sa:Option Addr)(tn tc sn sc:Nat)(h:b=w.heap.size):zcz (w.alloc (.cells (bj p vs bk ta sa tn tc sn sc).toArray 232)) b:=⟨_,Box.newAt _ _ _ _ h,rfl⟩
theorem zn8(w:World)(b:Nat)(o:Obj)(h:zcz w b):zcz (w.alloc o) b:=by obtain⟨c,h1,h2⟩:=h;exact⟨c,h1.below ((Below.refl _ _).alloc (Nat.le_refl _) o),h2⟩
theorem zv2(w:World)(b:Nat):zcz w.drew b↔zcz w b:=Iff.rfl
theorem zfu(w:World)(p vs bk:Int)(ta sa:Option Addr)(tn tc sn sc:Nat):zcz (w.alloc (.cells (bj p vs bk ta sa tn tc sn sc).toArray 232)) w.heap.size:=zp8 _ _ _ _ _ _ _ _ _ _ _ rfl
theorem zn7(w:World)(o:Obj)(p vs bk:Int)(ta sa:Option Addr)(tn tc sn sc:Nat):zcz ((w.alloc o).alloc (.cells (bj p vs bk ta sa tn tc sn sc).toArray 232)) (w.heap.size+1):=zp8 _ _ _ _ _ _ _ _ _ _ _ (by simp)
theorem zh3(w:World)(o:Obj)(p vs bk:Int)(ta sa:Option Addr)(tn tc sn sc:Nat):zcz ((w.alloc (.cells (bj p vs bk ta sa tn tc sn sc).toArray 232)).alloc o) w.heap.size:=zn8 _ _ _ (zfu _ _ _ _ _ _ _ _ _ _)
theorem zv7.mk'{wA W:World}{r:zaf}{ta:Option Addr}{tn tc n jb g:Nat}(h1:zcz W jb)(h2:Box W g (madeCells #[.pointer none,.int .i64 0,.int .i64 0,.int .i64 0] (n * 4)) 243)(hne:jb≠g)(h3:wA.heap.size<=jb)(h4:wA.heap.size<=g)(hb:Below wA.heap.size wA W):zv7 wA (zvk W jb (bj (r.head.pred:Nat) (r.vars:Nat) (zdz r r.vars) ta (some ⟨g,0,none⟩) tn tc n n)) r (.slice ta tn tc) n (.pointer (some ⟨jb,0,none⟩)):=by
 refine⟨jb,g,rfl,h3,h4,zi4 h1 rfl,h2.save (ziv _ _ _) (by simp;omega),hb.trans ((ziv _ _ _).below (by simp;omega) hb.size)⟩
attribute [local go_sem] zm1 z7a z5y z5z z6a z6b z3h Tryz.storeJ zfu zn7 zh3 zn8 zv2
def zzi(plain:List zad)(k:Nat):Int:=if (plain.take k).any (fun T=>T.count == 0) then -1 else 0
theorem z0h(plain:List zad)(k:Nat)(hk:k < plain.length):zzi plain (k+1)=if plain[k].count=0 then -1 else zzi plain k:=by
 unfold zzi
 rw[List.take_succ_eq_append_getElem hk,List.any_append]
 by_cases h:plain[k].count=0
 ·simp[h]
 ·simp[h]
theorem z3r(plain:List zad):zzi plain plain.length=zo3 plain:=by simp[zzi,zo3]
theorem zp3(pts:List (Nat × List Nat))(n k:Nat)(hk:k<=n)(hn:n=pts.length):(zfg pts n k).length=n:=by simp[zfg];omega
theorem zy5(pts:List (Nat × List Nat))(n k:Nat)(hk:k < n)(hn:pts.length=n):(zcg (zfg pts n k)).set (k * 4) (.pointer (some ⟨(pts[k]'(by omega)).1,0,none⟩))=zcg (zfg pts n (k+1)):=by
 rw[zo7 _ _ (by rw[zp3 pts n k (by omega) hn.symm];exact hk)]
 congr 1
 unfold zfg
 obtain⟨m,hm⟩:∃ m,n - k=m+1:=⟨n - k - 1,by omega⟩
 rw[hm,List.replicate_succ,show n - (k+1)=m from by omega,List.take_succ_eq_append_getElem (show k < pts.length by omega),List.map_append,List.append_assoc]
 have hl:((pts.take k).map (fun x=>(pt0 x.1,Value.int .i64 0,Value.int .i64 0,Value.int .i64 0))).length=k:=by simp;omega
 apply List.ext_getElem?
 intro i
 rw[List.getElem?_modify]
 by_cases e:k=i
 ·subst e
  rw[List.getElem?_append_right (by omega),List.getElem?_append_right (by omega),hl,Nat.sub_self]
  simp[z7q,pt0]
 ·rcases Nat.lt_or_ge i k with h|h
  ·rw[List.getElem?_append_left (by omega),List.getElem?_append_left (by omega)]
   simp[e]
  ·rw[List.getElem?_append_right (by omega),List.getElem?_append_right (by omega),hl]
   obtain⟨j,hj⟩:∃ j,i - k=j+1:=⟨i - k - 1,by omega⟩
   rw[hj]
   simp[e]
def zjc(r:zaf)(nots:List zad)(k:Nat):List z7h:=((r.nots.zip nots).take k).map fun x=>⟨x.1,zdg x.1,x.2⟩
theorem zxq(r:zaf)(nots:List zad)(k:Nat)(h1:k < r.nots.length)(h2:k < nots.length):zjc r nots (k+1)=zjc r nots k++[⟨r.nots[k],zdg r.nots[k],nots[k]⟩]:=by
 unfold zjc
 rw[List.take_succ_eq_append_getElem (by simp;omega),List.map_append]
 simp
theorem zz2(r:zaf)(nots:List zad)(k:Nat)(h1:k<=r.nots.length)(h2:k<=nots.length):(zjc r nots k).length=k:=by simp[zjc];omega
theorem zxp(r:zaf)(nots:List zad)(bps:List (Value × Nat × List Nat))(k:Nat)(h1:k < r.nots.length)(h2:k < nots.length)(hb:bps.length=k)(tv:Value)(tb:Nat)(fp:List Nat):zcg (List.zipWith zxo (zjc r nots (k+1)) (bps++[(tv,tb,fp)]))=zcg (List.zipWith zxo (zjc r nots k) bps)++[.int .i64 (r.nots[k].pred:Nat),tv,.int .i64 (zdg r.nots[k]:Nat),.pointer (some ⟨tb,0,none⟩)]:=by
 rw[zxq r nots k h1 h2,List.zipWith_append (by rw[zz2 r nots k (by omega) (by omega),hb])]
 simp only[List.zipWith_cons_cons,List.zipWith_nil_right]
 rw[zx4]
 rfl
def zog(lo:Nat)(w:World)(r:zaf)(nts:List (Nat × List Nat))(bps:List (Value × Nat × List Nat))(k:Nat):Prop:=bps.length=k/\∀ i (_:i < k) (h2:i < bps.length) (h3:i < r.nots.length) (h4:i < nts.length),zan lo w bps[i].1 r.nots[i].terms/\bps[i].2=nts[i]
theorem zog.snoc{w:World}{r:zaf}{nts:List (Nat × List Nat)}{bps:List (Value × Nat × List Nat)}{k:Nat}{tv:Value}(h:zog lo w r nts bps k)(h1:k < r.nots.length)(h2:k < nts.length)(hT:zan lo w tv r.nots[k].terms):zog lo w r nts (bps++[(tv,nts[k].1,nts[k].2)]) (k+1):=by
 obtain⟨ha,hb⟩:=h
 refine⟨by simp[ha],fun i a b c d=>?_⟩
 by_cases e:i < k
 ·rw[List.getElem_append_left (by omega)]
  exact hb i e (by omega) c d
 ·obtain rfl:i=k:=by omega
  simp only[← ha,List.getElem_concat_length]
  subst ha
  exact⟨hT,trivial⟩
def HoldsK(B:Nat)(w:World)(r:zaf)(hvs:List Value)(k:Nat):Prop:=∀ p (_:p < k) (_:p < hvs.length),w.ownsRow B 247 2 hvs[p] (zbw r p).length (zci (zbw r p))
theorem HoldsK.below{B:Nat}{w w':World}{r:zaf}{hvs:List Value}{k:Nat}(h:HoldsK B w r hvs k)(hb:Below w.heap.size w w'):HoldsK B w' r hvs k:=fun p a b=>zaa (h p a b) hb
theorem HoldsK.saveT{B:Nat}{w w':World}{r:zaf}{hvs:List Value}{k:Nat}{T:TypeId}{M:List Nat}(h:HoldsK B w r hvs k)(hs:zao M w w')(hM:OfT w T M)(hT:247≠T):HoldsK B w' r hvs k:=fun p a b=>zak (h p a b) hs hM hT
theorem HoldsK.set{B:Nat}{w:World}{r:zaf}{hvs:List Value}{k:Nat}{hv:Value}(h:HoldsK B w r hvs k)(ho:w.ownsRow B 247 2 hv (zbw r k).length (zci (zbw r k))):HoldsK B w r (hvs.set k hv) (k+1):=fun p a b=>by
 by_cases e:p=k
 ·subst e
  rw[List.getElem_set_self]
  exact ho
 ·rw[List.getElem_set_ne (Ne.symm e)]
  exact h p (by omega) (by simpa using b)
theorem zbg.cells{w0 w:World}{b6 jb:Nat}{r:zaf}{tv sv bv:Value}{hvs:List Value}{backs:List Int}{d:Int}(h:zbg lo w0 w b6 jb r tv sv bv hvs backs d):jb < w.heap.size/\(∀ o,w.frozen? ⟨jb,o,none⟩=false)/\w.cell? ⟨jb,3,none⟩=some sv/\w.cell? ⟨jb,4,none⟩=some bv/\w.cell? ⟨jb,26,none⟩=some (.int .i64 d)/\(∀ k,k < 5->w.cell? ⟨jb,5+k,none⟩=some (hvs.getD k (.bool false)))/\(∀ k,k < 5->w.cell? ⟨jb,10+k,none⟩=some (.int .i64 (backs.getD k 0))):=by
 obtain⟨hc,hf⟩:=h.box.rules
 obtain⟨a1,a2,a3,a4,a5⟩:=z7p (r:=r) (tv:=tv) (sv:=sv) (bv:=bv) (d:=d) h.hlen h.blen
 exact⟨h.box.lt,hf,(hc _).trans a1,(hc _).trans a2,(hc _).trans a3,fun k hk=>(hc _).trans (a4 k hk),fun k hk=>(hc _).trans (a5 k hk)⟩
theorem zy4(plain:List zad)(pts:List (Nat × List Nat))(h:pts.length=plain.length):zfg pts plain.length plain.length=List.zipWith zmd (plain.map fun T=>(⟨T,[0,0,0]⟩:zea)) pts:=by
 apply List.ext_getElem?
 intro i
 rw[List.getElem?_zipWith]
 by_cases hi:i < plain.length
 ·simp[zfg,← h,zmd,pt0,List.getElem?_map,List.getElem?_eq_getElem (show i < plain.length from hi),List.getElem?_eq_getElem (show i < pts.length by omega)]
 ·simp[zfg,← h,List.getElem?_eq_none (show plain.length<=i by omega),List.getElem?_eq_none (show pts.length<=i by omega)]
theorem zz1(r:zaf)(nots:List zad)(h:nots.length=r.nots.length):zjc r nots r.nots.length=(r.nots.zip nots).map fun x=>⟨x.1,zdg x.1,x.2⟩:=by
 unfold zjc
 rw[List.take_of_length_le (by simp;omega)]
theorem zog.all{w:World}{r:zaf}{nts:List (Nat × List Nat)}{bps:List (Value × Nat × List Nat)}{k:Nat}(h:zog lo w r nts bps k)(hk:k=nts.length/\k=r.nots.length):bps.map (·.2)=nts:=by
 obtain⟨ha,hb⟩:=h
 apply List.ext_getElem
 ·simp[ha,hk.1]
 ·intro i h1 h2
  rw[List.getElem_map]
  exact(hb i (by omega) (by omega) (by omega) h2).2
theorem zwl{b1 b2:Nat}{w W:World}{r:zaf}{tv pv nv plv ntv bv:Value}{g:Nat}{plain nots:List zad}{pts nts:List (Nat × List Nat)}{hvs:List Value}{bps:List (Value × Nat × List Nat)}{d:Int}(hW:Below w.heap.size w W)(hlo:lo<=w.heap.size)(h:zdj lo w tv pv nv r)(hp:z2w b1 lo w plv plain pts)(hn:z2w b2 lo w ntv nots nts)(hnn:nots.length=r.nots.length)(h5:hvs.length=5)
  (hh:HoldsK w.heap.size W r hvs 5) (hs:W.ownsRow w.heap.size 243 4 (sl g plain.length) plain.length (zcg (zfg pts plain.length plain.length))) (hb:W.ownsRow w.heap.size 245 4 bv r.nots.length (zcg (List.zipWith zxo (zjc r nots r.nots.length) bps))) (hbp:zog lo w r nts bps r.nots.length):zg7 lo W (za4 r plain nots d) ⟨tv,sl g plain.length,bv,hvs,pts,bps⟩:=by
 have hpl:=hp.len
 have hnl:=hn.len
 have hbl:=hbp.1
 have hzl:((r.nots.zip nots).map fun x=>(⟨x.1,zdg x.1,x.2⟩:z7h)).length=r.nots.length:=by simp;omega
 refine⟨h.head.below hW,?_,by simp[za4,hpl],?_,by simp[za4],?_,by simp only[za4];omega,?_,⟨h5,by simp[za4]⟩,?_,by simp[za4],?_⟩
 ·rw[zy4 plain pts hpl] at hs
  have:=zbb hs hlo
  simpa [za4] using this
 ·intro k a b
  simp only[za4,List.length_map] at a
  have:=(hp.tries k a b).below hW
  simpa [za4] using this
 ·rw[zz1 r nots hnn] at hb
  have:=zbb hb hlo
  simp only[za4]
  rw[hzl]
  exact this
 ·intro k a b
  simp only[za4] at a
  rw[hzl] at a
  obtain⟨q1,q2⟩:=hbp.2 k a b a (by omega)
  have q3:=(hn.tries k (by omega) (by omega)).below hW
  simp only[za4,List.getElem_map,List.getElem_zip]
  exact⟨q1.below hW,by rw[q2];exact q3⟩
 ·intro p a b
  simp only[za4,List.length_map,List.length_range] at a
  have q:=zbb (hh p a b) hlo
  have q2:=zsf r p (h.plain.len) (by omega)
  simp only[za4,List.getElem_map,List.getElem_range]
  exact⟨q,q2⟩
 ·simp only[za4,List.length_map]
  have:=hp.few
  have:=h.nots.len
  have:=h.small.2.1
  refine⟨by omega,by simp;omega,by omega⟩
theorem zg3{fn:Func}{t:Tmp}{ty:TypeId}(h:fn.results=#[.cell t ty])(tmps:Array Value)(P:Program)(w:World)(b o:Nat)(hp:tmps.getD t undef=.pointer (some ⟨b,o,none⟩)){v:Value}(hl:(loadVar ty ⟨b,o,none⟩).run P w=.ok v w):(results fn tmps).run P w=.ok v w:=by
 rw[Array.getD_eq_getD_getElem?] at hp
 simp[results,h,hp,asAddr,hl]
theorem Box.range{w:World}{b:Nat}{cs:List Value}{T:TypeId}(h:Box w b cs.toArray T):w.rangeAt b 0 cs:=fun j v hv=>by
 rw[Nat.zero_add,h.rules.1]
 simpa using hv
theorem z5k(r:zaf)(tv sv bv:Value)(hvs:List Value)(backs:List Int)(d:Int)(h1:hvs.length=5)(h2:backs.length=5):(jc r tv sv bv hvs backs d).length=28:=by
 simp[jc,h1,h2]
theorem z5l{r:zaf}{tv sv bv:Value}{hvs:List Value}{backs:List Int}{d:Int}(h1:tv.oneCell'=true)(h2:sv.oneCell'=true)(h3:bv.oneCell'=true)(h4:∀ u∈hvs,u.oneCell'=true):∀ u∈jc r tv sv bv hvs backs d,u.oneCell'=true:=by
 intro u hu
 simp only[jc,List.mem_append,List.mem_cons,List.mem_map,List.not_mem_nil,or_false] at hu
 rcases hu with ((((((hu|hu)|⟨_,_,hu⟩)|hu)|⟨_,_,hu⟩)|⟨_,_,hu⟩)|hu)
 ·rcases hu with rfl|rfl|rfl|rfl|rfl <;> first|rfl|assumption
 ·exact h4 u hu
 ·subst hu;rfl
 ·subst hu;rfl
 ·subst hu;rfl
 ·subst hu;rfl
 ·rcases hu with rfl|rfl <;> rfl
theorem HoldsK.one{B:Nat}{w:World}{r:zaf}{hvs:List Value}(h:HoldsK B w r hvs 5)(h5:hvs.length=5):∀ u∈hvs,u.oneCell'=true:=by
 intro u hu
 obtain⟨p,hp,rfl⟩:=List.getElem_of_mem hu
 obtain⟨ao,cap,e⟩:=zab (h p (by omega) hp)
 rw[e]
 rfl
theorem zhr{w0 w:World}{b6 jb:Nat}{r:zaf}{tv sv bv:Value}{hvs:List Value}{backs:List Int}{d:Int}(h:zbg lo w0 w b6 jb r tv sv bv hvs backs d):zcz w b6:=h.res
theorem zar.saveJ{w w':World}{tb:Nat}{T:zad}{fp M:List Nat}(h:zar lo w tb T fp)(hs:zao M w w')(hM:OfT w 232 M):zar lo w' tb T fp:=h.save hs fun b hb hm=>by
 obtain⟨c,hc⟩:=hM b hm
 exact h.notin hc (by decide) (by decide) (by decide) hb
theorem zg7.saveJ{w w':World}{J:zat}{P:zbo}{M:List Nat}(h:zg7 lo w J P)(hs:zao M w w')(hM:OfT w 232 M):zg7 lo w' J P :=
 ⟨h.head.saveT hs hM (by decide),zak h.sides hs hM (by decide),h.slen,fun k a b=>(h.tries k a b).saveJ hs hM,h.nodes,zak h.bars hs hM (by decide),h.blen,fun k a b=>⟨(h.btries k a b).1.saveT hs hM (by decide),(h.btries k a b).2.saveJ hs hM⟩,h.hlen,fun p a b=>⟨zak (h.holds p a b).1 hs hM (by decide),(h.holds p a b).2⟩,h.fives,h.few⟩
theorem z3z{b1 b2:Nat}(w:World)(r:zaf)(tv pv nv plv ntv:Value)(plain nots:List zad)(pts nts:List (Nat × List Nat))(h:zdj lo w tv pv nv r)(hp:z2w b1 lo w plv plain pts)(hn:z2w b2 lo w ntv nots nts)(hnn:nots.length=r.nots.length)(hlo:lo<=w.heap.size) :
  Calls Tryz.prog 143 #[zk3 r tv pv nv,plv,ntv] w fun e w'=>∃ P,e=.returned (.agg (zb6 (za0 r plain nots) P).toArray)/\zg7 lo w' (za0 r plain nots) P/\P.tbs=pts/\P.bps.map (·.2)=nts/\Below w.heap.size w w':=by
 obtain⟨iS,hiS,hzS,hzsS,hzbS⟩:=info_parts Tryz.infoSide
 obtain⟨iB,hiB,hzB,hzsB,hzbB⟩:=info_parts Tryz.infoBar
 have HR:Hid (zdj lo w tv pv nv r):=h
 have HP:Hid (z2w b1 lo w plv plain pts):=hp
 have HN:Hid (z2w b2 lo w ntv nots nts):=hn
 obtain⟨aop,capp,rfl⟩:=zab hp.own
 obtain⟨aon,capn,rfl⟩:=zab hn.own
 obtain⟨aot,capt,rfl⟩:=h.head.shape
 obtain⟨aopl,cappl,rfl⟩:=h.plain.shape
 obtain⟨aonl,capnl,rfl⟩:=h.nots.shape
 have hpf:=hp.few
 have hnf:=hn.few
 have hrv:=h.small.2.1
 have hmk:=fun W:World=>run_make (P:=Tryz.prog) (w:=W) 227 243 iS _ Tryz.underlying227 hiS hzS .i64 .i64 (plain.length:Int) (plain.length:Int) (by omega) (Int.le_refl _) (by rw[hzbS];omega) (by omega)
 rw[hzsS] at hmk
 have HBK:Hid (∀ W (kn:Int),Below w.heap.size w W->Calls Tryz.prog 149 #[.agg #[.int .i64 (r.stratum:Nat),.int .i64 (r.vars:Nat),.int .i64 (r.head.pred:Nat),.slice aot r.head.terms.length capt,.slice aopl r.plain.length cappl,.slice aonl r.nots.length capnl],.int .i64 kn] W fun e w'=>e=.returned (.int .i64 (zdz r kn))/\Below W.heap.size W w'):=fun W kn hW=>zz0 W _ _ _ r kn (h.below hW)
 have HHO:Hid (∀ W (pl:Nat),pl<=1000000->Below w.heap.size w W->Calls Tryz.prog 150 #[.agg #[.int .i64 (r.stratum:Nat),.int .i64 (r.vars:Nat),.int .i64 (r.head.pred:Nat),.slice aot r.head.terms.length capt,.slice aopl r.plain.length cappl,.slice aonl r.nots.length capnl],.int .i64 pl] W fun e w'=>∃ hv,e=.returned hv/\w'.ownsRow W.heap.size 247 2 hv (zbw r pl).length (zci (zbw r pl))/\Below W.heap.size W w'):=fun W pl hpl hW=>zuz W _ _ _ r pl (h.below hW) hpl
 have HLO:Hid (lo<=w.heap.size):=hlo
 have HNN:Hid (nots.length=r.nots.length):=hnn
 unfold zk3
 clear h hp hn hlo hnn
 have hb3:=(Box.new w #[.int .i64 (r.stratum:Nat),.int .i64 (r.vars:Nat),.int .i64 (r.head.pred:Nat),.slice aot r.head.terms.length capt,.slice aopl r.plain.length cappl,.slice aonl r.nots.length capnl] 150).below ((Below.refl _ _).alloc (Nat.le_refl _) (.cells (bj 0 0 0 none none 0 0 0 0).toArray 232))
 have hb6:=Box.new (w.alloc (.cells #[.int .i64 (r.stratum:Nat),.int .i64 (r.vars:Nat),.int .i64 (r.head.pred:Nat),.slice aot r.head.terms.length capt,.slice aopl r.plain.length cappl,.slice aonl r.nots.length capnl] 150)) (bj 0 0 0 none none 0 0 0 0).toArray 232
 have hBA:Below w.heap.size w ((w.alloc (.cells #[.int .i64 (r.stratum:Nat),.int .i64 (r.vars:Nat),.int .i64 (r.head.pred:Nat),.slice aot r.head.terms.length capt,.slice aopl r.plain.length cappl,.slice aonl r.nots.length capnl] 150)).alloc (.cells (bj 0 0 0 none none 0 0 0 0).toArray 232)):=(by go_grown)
 simp only[World.size_alloc] at hb6
 go_enter Tryz.func143,Tryz.ntmps143
 go_upto_region 1 with fail
 generalize (w.alloc (.cells #[.int .i64 (r.stratum:Nat),.int .i64 (r.vars:Nat),.int .i64 (r.head.pred:Nat),.slice aot r.head.terms.length capt,.slice aopl r.plain.length cappl,.slice aonl r.nots.length capnl] 150)).alloc (.cells (bj 0 0 0 none none 0 0 0 0).toArray 232)=wA at *
 obtain⟨h3c,h3f⟩:=hb3.rules
 have h3l:=hb3.lt
 have hzA:=hBA.size
 go_cut [7] from 13 to 24 (fun s7 wx=>zv7 wA wx r (.slice aot r.head.terms.length capt) plain.length s7)
 case first =>
  go_region_held3 (fun w'=>w'.cell? ⟨w.heap.size,0,none⟩=some (.int .i64 (r.stratum:Nat))/\w'.cell? ⟨w.heap.size,1,none⟩=some (.int .i64 (r.vars:Nat))/\w'.cell? ⟨w.heap.size,2,none⟩=some (.int .i64 (r.head.pred:Nat))/\w'.cell? ⟨w.heap.size,3,none⟩=some (.slice aot r.head.terms.length capt)/\w'.cell? ⟨w.heap.size,4,none⟩=some (.slice aopl r.plain.length cappl)/\w'.cell? ⟨w.heap.size,5,none⟩=some (.slice aonl r.nots.length capnl)) (first|go_keep|(go_simp;done)|(go_split_ands;refine⟨?_,?_,?_,?_,?_,?_⟩ <;> (rw[zcu _ _ _ _ _ (by simp;omega)];simp[*]))) (first|(go_at_call 149;refine(HBK.out _ _ (by exact(by go_grown))).mono ?_;rintro e w1 ⟨rfl,hb1⟩;have hB1:Below wA.heap.size wA w1:=(zae (by go_grown) hb1 (Nat.le_refl _));have h31:=hb3.below hB1;obtain⟨h31c,h31f⟩:=h31.rules;have h31l:=h31.lt;have hz1:=hB1.size;(first|((with_reducible refine Box.carry (Box.drew (Box.newAt (wA.alloc (.cells (madeCells #[.pointer none,.int .i64 0,.int .i64 0,.int .i64 0] (plain.length * 4)) 243)) (wA.heap.size+1) (bj 0 0 0 none none 0 0 0 0).toArray 232 (World.size_alloc _ _).symm)) hb1 ?_);intro hjz;have hjt:zcz w1 (wA.heap.size+1):=⟨_,hjz,rfl⟩;clear hjz;(with_reducible refine Box.carry (Box.drew (Box.below (Box.new wA (madeCells #[.pointer none,.int .i64 0,.int .i64 0,.int .i64 0] (plain.length * 4)) 243) ((Below.refl _ _).alloc (Nat.le_refl _) (.cells (bj 0 0 0 none none 0 0 0 0).toArray 232)))) hb1 ?_);intro hmb)|((with_reducible refine Box.carry (Box.drew (Box.below (Box.new wA (bj 0 0 0 none none 0 0 0 0).toArray 232) ((Below.refl _ _).alloc (Nat.le_refl _) (.cells (madeCells #[.pointer none,.int .i64 0,.int .i64 0,.int .i64 0] (plain.length * 4)) 243)))) hb1 ?_);intro hjz;have hjt:zcz w1 wA.heap.size:=⟨_,hjz,rfl⟩;clear hjz;(with_reducible refine Box.carry (Box.drew (Box.newAt (wA.alloc (.cells (bj 0 0 0 none none 0 0 0 0).toArray 232)) (wA.heap.size+1) (madeCells #[.pointer none,.int .i64 0,.int .i64 0,.int .i64 0] (plain.length * 4)) 243 (World.size_alloc _ _).symm)) hb1 ?_);intro hmb)|((with_reducible refine Box.carry (Box.drew (Box.new wA (bj 0 0 0 none none 0 0 0 0).toArray 232)) hb1 ?_);intro hjz;have hjt:zcz w1 wA.heap.size:=⟨_,hjz,rfl⟩;clear hjz)|((with_reducible refine Box.carry (Box.drew (Box.new wA (madeCells #[.pointer none,.int .i64 0,.int .i64 0,.int .i64 0] (plain.length * 4)) 243)) hb1 ?_);intro hmb)|skip)))
  all_goals
   go_wp2_with fail
   go_meet
   case rel =>
    apply zv7.mk'
    ·first|exact zn7 _ _ _ _ _ _ _ _ _ _ _|exact zh3 _ _ _ _ _ _ _ _ _ _ _|exact zfu _ _ _ _ _ _ _ _ _ _|exact hjt|exact zn8 _ _ _ hjt
    ·first|exact hmb|exact Box.below (Box.new w1 _ _) ((Below.refl _ _).alloc (Nat.le_refl _) _)|exact Box.newAt _ _ _ _ (World.size_alloc _ _).symm|exact Box.new w1 _ _|exact Box.below hmb ((Below.refl _ _).alloc (Nat.le_refl _) _)
    ·first|omega|(have:=hmb.lt;omega)|(have:=hjt.lt;omega)
    ·omega
    ·omega
    ·exact(zae hB1 (by go_grown) (Nat.le_refl _))
 case rest =>
  clear hmk
  obtain⟨jb,g,rfl,hj1,hg1,hbj,hbg,hbw⟩:=hcut
  have hne6:jb≠w.heap.size+1:=by have:=hb6.lt;omega
  have hM:zbg lo w wc (w.heap.size+1) jb r (.slice aot r.head.terms.length capt) (sl g plain.length) (.slice none 0 0) z1g (zdr r 0) 0:=⟨hbj,rfl,rfl,⟨_,hb6.below hbw,rfl⟩,zae hBA hbw (Nat.le_refl _),by omega,by omega,hne6⟩
  have HM:Hid (zbg lo w wc (w.heap.size+1) jb r (.slice aot r.head.terms.length capt) (sl g plain.length) (.slice none 0 0) z1g (zdr r 0) 0):=hM
  have HH:Hid (HoldsK w.heap.size wc r z1g 0):=fun p a=>by omega
  have HG:Hid (Box wc g (madeCells #[.pointer none,.int .i64 0,.int .i64 0,.int .i64 0] (plain.length * 4)) 243):=hbg
  have HRU:Hid (Box wc w.heap.size #[.int .i64 (r.stratum:Nat),.int .i64 (r.vars:Nat),.int .i64 (r.head.pred:Nat),.slice aot r.head.terms.length capt,.slice aopl r.plain.length cappl,.slice aonl r.nots.length capnl] 150):=hb3.below hbw
  have hjw:w.heap.size < jb:=by omega
  have hgw:w.heap.size < g:=by omega
  have hgj:g≠jb:=by
   intro e
   subst e
   exact absurd (hbg.type hbj) (by decide)
  have hg6:g≠w.heap.size+1:=by have:=hb6.lt;omega
  clear hM hbj hbg hbw hb3 hb6 hBA h3c h3f h3l hzA hj1 hg1
  go_wp2
  go_loopw [25] (fun v25 wr=>∃(k:Nat) (hvs:List Value),k<=5/\v25=.int .i64 k/\Hid (zbg lo w wr (w.heap.size+1) jb r (.slice aot r.head.terms.length capt) (sl g plain.length) (.slice none 0 0) hvs (zdr r k) 0)/\Hid (HoldsK w.heap.size wr r hvs k)/\Hid (Box wr g (madeCells #[.pointer none,.int .i64 0,.int .i64 0,.int .i64 0] (plain.length * 4)) 243)/\Hid (Box wr w.heap.size #[.int .i64 (r.stratum:Nat),.int .i64 (r.vars:Nat),.int .i64 (r.head.pred:Nat),.slice aot r.head.terms.length capt,.slice aopl r.plain.length cappl,.slice aonl r.nots.length capnl] 150)) (fun i _=>5 - (intOf i).toNat)
  case atStart=>exact⟨0,z1g,by omega,rfl,HM,HH,HG,HRU⟩
  case round =>
   clear HM HH HG HRU
   obtain⟨k,hvs,hk,rfl,HM,HH,HG,HRU⟩:=hrel
   have hbk:=HM.out.below
   have hszk:=hbk.size
   by_cases hlt:k < 5
   ·have hkk:(k:Int) < 5:=by omega
    have hru:=HRU.out
    obtain⟨hrc,hrf⟩:=hru.rules
    have hrl:=hru.lt
    have HHO1:Hid (∀ W,Below wr.heap.size wr W->Calls Tryz.prog 150 #[.agg #[.int .i64 (r.stratum:Nat),.int .i64 (r.vars:Nat),.int .i64 (r.head.pred:Nat),.slice aot r.head.terms.length capt,.slice aopl r.plain.length cappl,.slice aonl r.nots.length capnl],.int .i64 k] W fun e w'=>∃ hv,e=.returned hv/\w'.ownsRow W.heap.size 247 2 hv (zbw r k).length (zci (zbw r k))/\Below W.heap.size W w'):=fun W hW=>HHO.out W k (by omega) (zae hbk hW (Nat.le_refl _))
    have HBK1:Hid (∀ W,Below w.heap.size w W->Calls Tryz.prog 149 #[.agg #[.int .i64 (r.stratum:Nat),.int .i64 (r.vars:Nat),.int .i64 (r.head.pred:Nat),.slice aot r.head.terms.length capt,.slice aopl r.plain.length cappl,.slice aonl r.nots.length capnl],.int .i64 k] W fun e w'=>e=.returned (.int .i64 (zdz r (k:Nat)))/\Below W.heap.size W w'):=fun W hW=>HBK.out W (k:Nat) hW
    have HBS:Hid ((zdr r k).set k (zdz r (k:Nat))=zdr r (k+1)):=zxn r k hlt
    generalize zdz r (k:Nat)=bk at *
    generalize hhj:zbw r k=hj at *
    have HHJ:Hid (zbw r k=hj):=hhj
    clear hhj
    go_upto_region 6 with (first|(go_at_call 150;refine(HHO1.out _ (by exact(by go_grown))).mono ?_;rintro e w2 ⟨hv,rfl,hown2,hb2⟩;obtain⟨aoh,caph,rfl⟩:=zab hown2;have hM2:=HM.out.next hb2;obtain⟨h2l,h2f,_,_,_,h25,_⟩:=hM2.cells;have h25k:=h25 k hlt;clear h25;generalize hvs.getD k (.bool false)=ov at h25k))
    have hru2:=hru.below hb2
    have hg2:=HG.out.below hb2
    have hh2:=HH.out.below hb2
    have hz2:=hb2.size
    have hs3:zao [jb] w2 (w2.setCell ⟨jb,5+k,none⟩ (.slice aoh hj.length caph)):=zao.set _ _ _ _
    have hM3:=hM2.hold k hlt (.slice aoh hj.length caph)
    have hru3:=hru2.saveT hs3 (OfT.box hM2.box) (by decide)
    have hg3:=hg2.saveT hs3 (OfT.box hM2.box) (by decide)
    have hh3:HoldsK w.heap.size _ r (hvs.set k (.slice aoh hj.length caph)) (k+1):=(hh2.set (by rw[HHJ.out];exact zbb hown2 (by omega))).saveT hs3 (OfT.box hM2.box) (by decide)
    generalize w2.setCell ⟨jb,5+k,none⟩ (.slice aoh hj.length caph)=w3 at *
    clear hs3 hru2 hg2 hh2 hM2 h25k h2f h2l hru hrc hrf hrl hown2 HHO1
    generalize hvs.set k (.slice aoh hj.length caph)=hvs3 at *
    have HM3:Hid (zbg lo w w3 (w.heap.size+1) jb r (.slice aot r.head.terms.length capt) (sl g plain.length) (.slice none 0 0) hvs3 (zdr r k) 0):=hM3
    have HH3:Hid (HoldsK w.heap.size w3 r hvs3 (k+1)):=hh3
    have HG3:Hid (Box w3 g (madeCells #[.pointer none,.int .i64 0,.int .i64 0,.int .i64 0] (plain.length * 4)) 243):=hg3
    clear hM3 hh3 hg3 HM HH HG HRU
    obtain⟨hrc,hrf⟩:=hru3.rules
    have hrl:=hru3.lt
    have hb3:=HM3.out.below
    have hz3:=hb3.size
    go_wp2_with (first|(go_at_call 149;refine(HBK1.out _ (by exact hb3)).mono ?_;rintro e w4 ⟨rfl,hb4⟩;have hM4:=HM3.out.next hb4;obtain⟨h4l,h4f,_,_,_,_,h4b⟩:=hM4.cells;have h4bk:=h4b k hlt;clear h4b;generalize (zdr r k).getD k 0=ob at h4bk))
    have hs5:zao [jb] w4 (w4.setCell ⟨jb,10+k,none⟩ (.int .i64 bk)):=zao.set _ _ _ _
    have hM5:=hM4.back k hlt bk
    rw[HBS.out] at hM5
    go_roundw
    case rel=>exact⟨k+1,hvs3,by omega,by go_num,hM5,(HH3.out.below hb4).saveT hs5 (OfT.box hM4.box) (by decide),(HG3.out.below hb4).saveT hs5 (OfT.box hM4.box) (by decide),(hru3.below hb4).saveT hs5 (OfT.box hM4.box) (by decide)⟩
    case measure=>simp[intOf];omega
   ·obtain rfl:k=5:=by omega
    rw[show((5:Nat):Int)=5 from rfl]
    clear hk hlt HHO HBK
    have HS0:Hid (wr.ownsRow w.heap.size 243 4 (sl g plain.length) plain.length (zcg (zfg pts plain.length 0))):=by
     have q:=ztd (lo:=w.heap.size) HG.out (by omega) (by unfold maxLen;omega)
     have e:zfg pts plain.length 0=List.replicate plain.length (Value.pointer none,Value.int .i64 0,Value.int .i64 0,Value.int .i64 0):=by simp[zfg,z7q]
     rw[Hid,e]
     exact q
    clear HG
    have HD0:Hid (zzi plain 0=0):=rfl
    go_wp2
    have HM0:Hid (zbg lo w wr (w.heap.size+1) jb r (.slice aot r.head.terms.length capt) (sl g plain.length) (.slice none 0 0) hvs (zdr r 5) (zzi plain 0)):=HM
    clear HM HD0
    go_loopw [43] (fun v43 wr=>∃(k:Nat),k<=plain.length/\v43=.int .i64 k/\Hid (zbg lo w wr (w.heap.size+1) jb r (.slice aot r.head.terms.length capt) (sl g plain.length) (.slice none 0 0) hvs (zdr r 5) (zzi plain k))/\Hid (HoldsK w.heap.size wr r hvs 5)/\Hid (wr.ownsRow w.heap.size 243 4 (sl g plain.length) plain.length (zcg (zfg pts plain.length k)))/\Hid (Box wr w.heap.size #[.int .i64 (r.stratum:Nat),.int .i64 (r.vars:Nat),.int .i64 (r.head.pred:Nat),.slice aot r.head.terms.length capt,.slice aopl r.plain.length cappl,.slice aonl r.nots.length capnl] 150)) (fun i _=>plain.length - (intOf i).toNat)
    case atStart=>exact⟨0,Nat.zero_le _,rfl,HM0,HH,HS0,HRU⟩
    case round =>
     clear HM0 HH HS0 HRU hbk hszk
     obtain⟨k,hk,rfl,HM,HH,HS,HRU⟩:=hrel
     have hbk:=HM.out.below
     have hszk:=hbk.size
     by_cases hlt:k < plain.length
     ·have hk2:k < pts.length:=by have:=HP.out.len;omega
      obtain⟨gp,capp',hpv,hgp,hpc⟩:=HP.out.cell k hlt hk2
      simp only[Value.slice.injEq] at hpv
      have hpv1:=hpv.1
      clear hpv
      subst hpv1
      have hx0:=(hbk.cell (p:=⟨gp,k,none⟩) hgp).trans hpc
      have hgpr:gp < wr.heap.size:=by omega
      obtain⟨h1l,h1f,h13,_,_,_,_⟩:=HM.out.cells
      have h13':wr.cell? ⟨jb,3,none⟩=some (.slice (some ⟨g,0,none⟩) plain.length plain.length):=h13
      have hS:wr.ownsRow w.heap.size 243 4 (.slice (some ⟨g,0,none⟩) plain.length plain.length) plain.length (zcg (zfg pts plain.length k)):=HS.out
      have hkk:(k:Int) < (plain.length:Int):=by omega
      have hsl:=zp3 pts plain.length k hk (by have:=HP.out.len;omega)
      obtain⟨sx,hsx⟩:∃ sx,wr.cell? ⟨g,k * 4,none⟩=some sx:=by
       obtain⟨g',cap',hv',_,_,hcl'⟩:=zas hS (by omega)
       simp only[Value.slice.injEq,Option.some.injEq,Addr.mk.injEq,and_true] at hv'
       have hgg:=hv'.1
       subst hgg
       exact⟨_,hcl' (k * 4) _ (zkk (zfg pts plain.length k) k (by omega)).1⟩
      have hsf:=zby hS
      have hset:=zb7 hS (k * 4) (by rw[zkl];omega) (.pointer (some ⟨pts[k].1,0,none⟩))
      have HSS:Hid ((zcg (zfg pts plain.length k)).set (k * 4) (.pointer (some ⟨pts[k].1,0,none⟩))=zcg (zfg pts plain.length (k+1))):=zy5 pts plain.length k hlt HP.out.len
      rw[HSS.out] at hset
      have HTC:Hid (∀ W,Below w.heap.size w W->Calls Tryz.prog 139 #[.pointer (some ⟨pts[k].1,0,none⟩)] W fun e w'=>e=.returned (.int .i64 (plain[k].count:Nat))/\w'=W):=fun W hW=>zp7 W pts[k].1 plain[k] pts[k].2 ((HP.out.tries k hlt hk2).below hW)
      have HDS:Hid (zzi plain (k+1)=if plain[k].count=0 then -1 else zzi plain k):=z0h plain k hlt
      have hs2:zao [g] wr (wr.setCell ⟨g,k * 4,none⟩ (.pointer (some ⟨pts[k].1,0,none⟩))):=zao.set _ _ _ _
      have hMg:OfT wr 243 [g]:=fun x hx=>by simp at hx;subst hx;exact zd8 hS rfl
      have hM2:=HM.out.save hs2 (fun x hx=>by simp at hx;omega) ⟨by simp;omega,by simp;omega⟩
      have hh2:=HH.out.saveT hs2 hMg (by decide)
      have hru2:=HRU.out.saveT hs2 hMg (by decide)
      generalize pts[k].1=tb at *
      generalize plain[k].count=ct at *
      clear h13 hpc HSS hS hsl
      go_upto_region 12 with fail
      generalize wr.setCell ⟨g,k * 4,none⟩ (.pointer (some ⟨tb,0,none⟩))=w2 at *
      have hb2:=hM2.below
      clear hx0 h1l h1f h13' hsx hsf HM HH HS HRU
      obtain⟨h2l,h2f,_,_,h226,_,_⟩:=hM2.cells
      have HM2:Hid (zbg lo w w2 (w.heap.size+1) jb r (.slice aot r.head.terms.length capt) (sl g plain.length) (.slice none 0 0) hvs (zdr r 5) (zzi plain k)):=hM2
      have HH2:Hid (HoldsK w.heap.size w2 r hvs 5):=hh2
      have HRU2:Hid (Box w2 w.heap.size _ 150):=hru2
      clear hM2 hh2 hru2 hMg
      generalize hdk:zzi plain k=dk at *
      clear hdk
      by_cases hc0:ct=0
      ·subst hc0
       simp only[if_true] at HDS
       have hs3:zao [jb] w2 (w2.setCell ⟨jb,26,none⟩ (.int .i64 (-1))):=zao.set _ _ _ _
       have hM3:=HM2.out.depth (-1)
       have hMj:=OfT.box HM2.out.box
       go_wp2_with (first|(go_at_call 139;refine(HTC.out _ (by exact hb2)).mono ?_;rintro e w3 ⟨rfl,hww⟩;obtain rfl:=hww.symm))
       go_roundw
       case rel=>exact⟨k+1,by omega,by go_num,by rw[HDS.out];exact hM3,HH2.out.saveT hs3 hMj (by decide),zak hset hs3 hMj (by decide),HRU2.out.saveT hs3 hMj (by decide)⟩
       case measure=>simp[intOf];omega
      ·rw[if_neg hc0] at HDS
       have hcb:((ct:Int) == 0)=false:=by rw[beq_eq_false_iff_ne];omega
       go_wp2_with (first|(go_at_call 139;refine(HTC.out _ (by exact hb2)).mono ?_;rintro e w3 ⟨rfl,hww⟩;obtain rfl:=hww.symm))
       go_roundw
       case rel=>exact⟨k+1,by omega,by go_num,by rw[HDS.out];exact HM2,HH2,hset,HRU2⟩
       case measure=>simp[intOf];omega
     ·obtain rfl:k=plain.length:=by omega
      rw[z3r] at HM
      clear hk hlt
      have hru:=HRU.out
      obtain⟨hrc,hrf⟩:=hru.rules
      have hrl:=hru.lt
      go_wp2
      clear hrc hrf hrl hru
      have HB0:Hid (wr.ownsRow w.heap.size 245 4 (.slice none 0 0) 0 (zcg (List.zipWith zxo (zjc r nots 0) []))):=World.ownsRow_nil _ _ _ _
      have HBP0:Hid (zog lo w r nts [] 0):=⟨rfl,fun i a=>by omega⟩
      go_loopw [62] (fun v62 wr=>∃(k:Nat) (bv:Value) (bps:List (Value × Nat × List Nat)),k<=r.nots.length/\v62=.int .i64 k/\Hid (zbg lo w wr (w.heap.size+1) jb r (.slice aot r.head.terms.length capt) (sl g plain.length) bv hvs (zdr r 5) (zo3 plain))/\Hid (HoldsK w.heap.size wr r hvs 5)/\Hid (wr.ownsRow w.heap.size 243 4 (sl g plain.length) plain.length (zcg (zfg pts plain.length plain.length)))/\Hid (wr.ownsRow w.heap.size 245 4 bv k (zcg (List.zipWith zxo (zjc r nots k) bps)))/\Hid (zog lo w r nts bps k)) (fun i _=>r.nots.length - (intOf i).toNat)
      case atStart=>exact⟨0,_,[],Nat.zero_le _,rfl,HM,HH,HS,HB0,HBP0⟩
      case round =>
       clear HM HH HS HB0 HBP0 HRU hbk hszk
       obtain⟨k,bv,bps,hk,rfl,HM,HH,HS,HB,HBP⟩:=hrel
       have hbk:=HM.out.below
       have hszk:=hbk.size
       by_cases hlt:k < r.nots.length
       ·have hkn:k < nots.length:=by rw[HNN.out];exact hlt
        have hkt:k < nts.length:=by have:=HN.out.len;omega
        obtain⟨gl,aol,capl,hgl,hgll,hl0,hl1,hlT⟩:=HR.out.nots.cell k hlt
        subst hgl
        obtain⟨gn,capn',hnv,hgn,hnc⟩:=HN.out.cell k hkn hkt
        simp only[Value.slice.injEq] at hnv
        have hnv1:=hnv.1
        clear hnv
        subst hnv1
        have hkk:(k:Int) < (r.nots.length:Int):=by omega
        have hkk2:(k:Int) < (nots.length:Int):=by omega
        have hx0:=(hbk.cell (p:=⟨gl,k * 2,none⟩) hgll).trans hl0
        have hx1:=(hbk.cell (p:=⟨gl,k * 2+1,none⟩) hgll).trans hl1
        have hxn:=(hbk.cell (p:=⟨gn,k,none⟩) hgn).trans hnc
        have hglr:gl < wr.heap.size:=by omega
        have hgnr:gn < wr.heap.size:=by omega
        have hownb:=HB.out
        obtain⟨aob,capb,hbv⟩:=zab hownb
        subst hbv
        have HLT:Hid (zan lo w (.slice aol r.nots[k].terms.length capl) r.nots[k].terms):=hlT
        have HKN:Hid (∀ W,Below w.heap.size w W->Calls Tryz.prog 151 #[.agg #[.int .i64 (r.nots[k].pred:Nat),.slice aol r.nots[k].terms.length capl]] W fun e w'=>e=.returned (.int .i64 (zdg r.nots[k]:Nat))/\Below W.heap.size W w'):=fun W hW=>zsp W _ r.nots[k].pred r.nots[k].terms (hlT.below hW)
        have HBS:Hid (zcg (List.zipWith zxo (zjc r nots (k+1)) (bps++[(.slice aol r.nots[k].terms.length capl,nts[k].1,nts[k].2)]))=zcg (List.zipWith zxo (zjc r nots k) bps)++[.int .i64 (r.nots[k].pred:Nat),.slice aol r.nots[k].terms.length capl,.int .i64 (zdg r.nots[k]:Nat),.pointer (some ⟨nts[k].1,0,none⟩)]):=zxp r nots bps k hlt hkn HBP.out.1 _ _ _
        have HBPS:Hid (zog lo w r nts (bps++[(.slice aol r.nots[k].terms.length capl,nts[k].1,nts[k].2)]) (k+1)):=HBP.out.snoc hlt hkt hlT
        clear hl0 hl1 hnc hlT HLT
        generalize r.nots[k].pred=pr at *
        generalize r.nots[k].terms.length=tl at *
        generalize zdg r.nots[k]=kn at *
        generalize nts[k].1=tb at *
        generalize nts[k].2=fp at *
        go_upto_region 19 with fail
        have hgr1:Below wr.heap.size wr (wr.alloc (.cells #[.int .i64 (pr:Nat),.slice aol tl capl] 147)):=(by go_grown)
        have hlb1:=Box.new wr #[.int .i64 (pr:Nat),.slice aol tl capl] 147
        have hM1:=HM.out.next hgr1
        have HH1:Hid (HoldsK _ _ r hvs 5):=HH.out.below hgr1
        have HS1:Hid (World.ownsRow _ w.heap.size 243 4 (sl g plain.length) plain.length _):=zaa HS.out hgr1
        have hownb1:=zaa hownb hgr1
        have hxn1:=(hgr1.cell (p:=⟨gn,k,none⟩) hgnr).trans hxn
        clear HM HH HS HB hownb hx0 hx1 hxn
        generalize wr.alloc (.cells #[.int .i64 (pr:Nat),.slice aol tl capl] 147)=w1 at *
        generalize wr.heap.size=lb at *
        clear hgr1 hbk
        have hb1:=hM1.below
        obtain⟨h1l,h1f,_,h14,_,_,_⟩:=hM1.cells
        obtain⟨hlc,hlf⟩:=hlb1.rules
        have hlbl:=hlb1.lt
        have HM1:Hid (zbg lo w w1 (w.heap.size+1) jb r (.slice aot r.head.terms.length capt) (sl g plain.length) (.slice aob k capb) hvs (zdr r 5) (zo3 plain)):=hM1
        clear hM1
        have hz1:=hb1.size
        refine wp_region_noPanic ?_
        refine zoc (S:=fun w'=>w'.cell? ⟨jb,4,none⟩=some (.slice aob k capb)/\w'.cell? ⟨lb,0,none⟩=some (.int .i64 (pr:Nat))/\w'.cell? ⟨lb,1,none⟩=some (.slice aol tl capl)/\w'.cell? ⟨gn,k,none⟩=some (.pointer (some ⟨tb,0,none⟩))) (d:=13) (by kernel_rfl) (by refine⟨h14,?_,?_,hxn1⟩ <;> (show w1.cell? _=_;rw[hlc];rfl)) (fun hHeld=>?_)
        refine zam (i:=0) (v:=?v0) rfl (by kernel_rfl) (by kernel_rfl) (by kernel_rfl) (by kernel_rfl) (fun _ _ _ h=>h) (Or.inl ⟨by rfl,?hy0⟩) hHeld ?rest0
        case hy0 =>
         intro wq hSw
         go_simp
         (try with_reducible rfl)
        refine zam (i:=1) (v:=?v1) rfl (by kernel_rfl) (by kernel_rfl) (by kernel_rfl) (by kernel_rfl) (fun _ _ _ h=>h) (Or.inl ⟨by rfl,?hy1⟩) hHeld ?rest1
        case hy1 =>
         intro wq hSw
         go_simp
         (try with_reducible rfl)
        refine zam (i:=2) (v:=?v2) rfl (by kernel_rfl) (by kernel_rfl) (by kernel_rfl) (by kernel_rfl) (fun _ _ _ h=>h) (Or.inl ⟨by rfl,?hy2⟩) hHeld ?rest2
        case hy2 =>
         intro wq hSw
         go_simp
         (try with_reducible rfl)
        refine zam (i:=3) (v:=?v3) rfl (by kernel_rfl) (by kernel_rfl) (by kernel_rfl) (by kernel_rfl) (fun _ _ _ h=>h) (Or.inl ⟨by rfl,?hy3⟩) hHeld ?rest3
        case hy3 =>
         intro wq hSw
         go_simp
         (try with_reducible rfl)
        refine zam (i:=5) (v:=?v5) rfl (by kernel_rfl) (by kernel_rfl) (by kernel_rfl) (by kernel_rfl) (fun _ _ _ h=>h) (Or.inl ⟨by rfl,?hy5⟩) hHeld ?rest5
        case hy5 =>
         intro wq hSw
         go_simp
         (try with_reducible rfl)
        refine zam (i:=6) (v:=?v6) rfl (by kernel_rfl) (by kernel_rfl) (by kernel_rfl) (by kernel_rfl) (fun _ _ _ h=>h) (Or.inl ⟨by rfl,?hy6⟩) hHeld ?rest6
        case hy6 =>
         intro wq hSw
         go_simp
         (try with_reducible rfl)
        refine zam (i:=7) (v:=?v7) rfl (by kernel_rfl) (by kernel_rfl) (by kernel_rfl) (by kernel_rfl) (fun _ _ _ h=>h) (Or.inl ⟨by rfl,?hy7⟩) hHeld ?rest7
        case hy7 =>
         intro wq hSw
         go_simp
         (try with_reducible rfl)
        refine zam (i:=8) (v:=?v8) rfl (by kernel_rfl) (by kernel_rfl) (by kernel_rfl) (by kernel_rfl) (fun _ _ _ h=>h) (Or.inl ⟨by rfl,?hy8⟩) hHeld ?rest8
        case hy8 =>
         intro wq hSw
         go_simp
         (try with_reducible rfl)
        refine zc2 (i:=4) (by kernel_rfl) rfl (fun K hK=>?_)
        go_simp
        refine(HKN.out _ (by exact(zax hb1 1))).mono ?_
        rintro e w2 ⟨rfl,hb2⟩
        have hB2:Below w1.heap.size w1 w2:=zae (zax (Below.refl _ _) 1) hb2 (Nat.le_refl _)
        have hM2:=HM1.out.next hB2
        have HH2:Hid (HoldsK _ _ r hvs 5):=HH1.out.below hB2
        have HS2:Hid (World.ownsRow w2 w.heap.size 243 4 (sl g plain.length) plain.length _):=zaa HS1.out hB2
        have hownb2:=zaa hownb1 hB2
        have hlb2:=hlb1.below hB2
        have hxn2:=(hB2.cell (p:=⟨gn,k,none⟩) (show gn < w1.heap.size by omega)).trans hxn1
        have hz2:=hB2.size
        have hb2':=hM2.below
        obtain⟨h2l,h2f,_,h24,_,_,_⟩:=hM2.cells
        have HM2:Hid (zbg lo w w2 (w.heap.size+1) jb r (.slice aot r.head.terms.length capt) (sl g plain.length) (.slice aob k capb) hvs (zdr r 5) (zo3 plain)):=hM2
        obtain⟨hl2c,hl2f⟩:=hlb2.rules
        refine hK.out _ _ (fun _=>⟨h24,by rw[hl2c];rfl,by rw[hl2c];rfl,hxn2⟩) ?_
        have hHeld2:w2.cell? ⟨jb,4,none⟩=some (.slice aob k capb)/\w2.cell? ⟨lb,0,none⟩=some (.int .i64 (pr:Nat))/\w2.cell? ⟨lb,1,none⟩=some (.slice aol tl capl)/\w2.cell? ⟨gn,k,none⟩=some (.pointer (some ⟨tb,0,none⟩)):=⟨h24,by rw[hl2c];rfl,by rw[hl2c];rfl,hxn2⟩
        clear hK K hHeld hM2 hlc hlf h1l h1f h14 hxn1 HM1 HH1 HS1 hb2 hl2c hl2f HKN
        refine zam (i:=9) (v:=?v9) rfl (by kernel_rfl) (by kernel_rfl) (by kernel_rfl) (by kernel_rfl) (fun _ _ _ h=>h) (Or.inl ⟨by rfl,?hy9⟩) hHeld2 ?rest9
        case hy9 =>
         intro wq hSw
         go_simp
         (try with_reducible rfl)
        refine zc2 (i:=10) (by kernel_rfl) rfl (fun K hK=>?_)
        go_simp
        refine hK.out _ _ (fun _=>?hS10) ?rest10
        case hS10=>obtain⟨q0,q1,q2,q3⟩:=hHeld2;refine⟨?_,?_,?_,?_⟩ <;> (rw[World.cell?_alloc_lt _ _ _ (by simp;omega)];assumption)
        clear hK K
        refine zc2 (i:=11) (by kernel_rfl) rfl (fun K hK=>?_)
        refine zgk w2 _ [.int .i64 (pr:Nat),.slice aol tl capl,.int .i64 (kn:Nat),.pointer (some ⟨tb,0,none⟩)] 245 rfl (.tmp 72) (.tmp 81) 228 rfl w.heap.size 245 iB _ 4 48 Tryz.underlying228 hiB hzB hzsB hzbB rfl (by decide) (.slice aob k capb) k (zcg (List.zipWith zxo (zjc r nots k) bps)) (by simp[Act.eval]) hownb2 (by exact(by go_grown)) w2.heap.size 1 (by simp[Act.eval]) (by exact Box.new _ _ _) rfl (by simp[Value.oneCell']) (by omega) (by omega) (by omega) ?_
        intro v' w3 ho3 hS3 hat3 hk3 hz3'
        obtain⟨aov,capv,rfl⟩:=zab ho3
        have hMB:OfT w2 245 (Value.ownBlock (.slice aob k capb)).toList:=OfT.own hownb2
        have hM3:=HM2.out.save hS3 (fun x hx=>zej hownb2 (zc1 hx)) ⟨zdm hownb2 HM2.out.box (by decide),fun hm=>by obtain⟨c,hc,_⟩:=HM2.out.res;exact zdm hownb2 hc (by decide) hm⟩
        have hlb3:=hlb2.saveT hS3 hMB (by decide)
        have hh3:=HH2.out.saveT hS3 hMB (by decide)
        have hs3:=zak HS2.out hS3 hMB (by decide)
        obtain⟨hl3c,hl3f⟩:=hlb3.rules
        obtain⟨h3l,h3f,_,h34,_,_,_⟩:=hM3.cells
        have hxn3:=(hM3.below.cell (p:=⟨gn,k,none⟩) hgn).trans ((hb2'.cell (p:=⟨gn,k,none⟩) hgn).symm.trans hxn2)
        have hHeld3:w3.cell? ⟨jb,4,none⟩=some (.slice aob k capb)/\w3.cell? ⟨lb,0,none⟩=some (.int .i64 (pr:Nat))/\w3.cell? ⟨lb,1,none⟩=some (.slice aol tl capl)/\w3.cell? ⟨gn,k,none⟩=some (.pointer (some ⟨tb,0,none⟩)):=⟨h34,by rw[hl3c];rfl,by rw[hl3c];rfl,hxn3⟩
        refine hK.out _ _ (fun _=>hHeld3) ?_
        clear hK K hHeld2
        refine zam (i:=12) (v:=?v12) rfl (by kernel_rfl) (by kernel_rfl) (by kernel_rfl) (by kernel_rfl) (fun _ _ _ h=>h) (Or.inl ⟨by rfl,?hy12⟩) hHeld3 ?rest12
        case hy12 =>
         intro wq hSw
         go_simp
         (try with_reducible rfl)
        refine zc2 (i:=13) (by kernel_rfl) rfl (fun K hK=>?_)
        go_simp
        refine hK.out _ _ (fun hq=>absurd rfl hq) ?_
        clear hK K
        refine zj7 (by kernel_rfl) ?_ _
        refine NoPanic.normal ?_
        have hs4:zao [jb] w3 (w3.setCell ⟨jb,4,none⟩ (.slice aov (k+1) capv)):=zao.set _ _ _ _
        have hMj:=OfT.box hM3.box
        have hM4:=hM3.bars (.slice aov (k+1) capv)
        have hh4:=hh3.saveT hs4 hMj (by decide)
        have hs4':=zak hs3 hs4 hMj (by decide)
        have ho4:=zak ho3 hs4 hMj (by decide)
        rw[← HBS.out] at ho4
        clear hHeld3 hl3c hl3f h3l h3f h34 hxn3
        go_wp2
        go_roundw
        case rel=>exact⟨k+1,_,_,by omega,by go_num,hM4,hh4,hs4',ho4,HBPS⟩
        case measure=>simp[intOf];omega
       ·have hke:k=r.nots.length:=by omega
        subst hke
        clear hk hlt
        have hJ:JIn lo wr jb (za4 r plain nots (zo3 plain)) ⟨.slice aot r.head.terms.length capt,sl g plain.length,bv,hvs,pts,bps⟩:=zg7.join (zwl hbk HLO.out HR.out HP.out HN.out HNN.out HM.out.hlen HH.out HS.out HB.out HBP.out) (by have:=HLO.out;omega) HM.out.box
        have HBA:Hid (Calls Tryz.prog 152 #[.pointer (some ⟨jb,0,none⟩),.int .i64 0] wr fun e w'=>e=.returned (.bool (zbx (za4 r plain nots (zo3 plain)) 0))/\Below wr.heap.size wr w'):=zox wr jb _ _ 0 hJ
        have HJN:Hid (za0 r plain nots=if zbx (za4 r plain nots (zo3 plain)) 0 then za4 r plain nots (-1) else za4 r plain nots (zo3 plain)):=zye r plain nots
        have HJM:Hid (∀(W:World) (d:Int),Below w.heap.size w W->HoldsK w.heap.size W r hvs 5->W.ownsRow w.heap.size 243 4 (sl g plain.length) plain.length (zcg (zfg pts plain.length plain.length))->W.ownsRow w.heap.size 245 4 bv r.nots.length (zcg (List.zipWith zxo (zjc r nots r.nots.length) bps))->zg7 lo W (za4 r plain nots d) ⟨.slice aot r.head.terms.length capt,sl g plain.length,bv,hvs,pts,bps⟩):=fun W d hW h1 h2 h3=>zwl hW HLO.out HR.out HP.out HN.out HNN.out HM.out.hlen h1 h2 h3 HBP.out
        have HBPS:Hid (bps.map (·.2)=nts):=zog.all HBP.out (by have:=HN.out.len;have:=HNN.out;omega)
        obtain⟨aobv,capbv,hbv⟩:=zab HB.out
        clear hJ
        generalize zbx (za4 r plain nots (zo3 plain)) 0=ba at *
        cases ba with
        |true =>
         simp only[if_true] at HJN
         go_upto_region 23 with (first|(go_at_call 152;refine HBA.out.mono ?_;rintro e w2 ⟨rfl,hb2⟩;have hM2:=HM.out.next hb2;obtain⟨h2l,h2f,_,_,h226,_,_⟩:=hM2.cells))
         have hs3:zao [jb] w2 (w2.setCell ⟨jb,26,none⟩ (.int .i64 (-1))):=zao.set _ _ _ _
         have hMj:=OfT.box hM2.box
         have hM3:=hM2.depth (-1)
         have hh3:=(HH.out.below hb2).saveT hs3 hMj (by decide)
         have hS3:=zak (zaa HS.out hb2) hs3 hMj (by decide)
         have hB3:=zak (zaa HB.out hb2) hs3 hMj (by decide)
         generalize w2.setCell ⟨jb,26,none⟩ (.int .i64 (-1))=w3 at *
         clear h2l h2f h226 hs3 hMj hM2 hb2
         have hone:∀ u∈jc r (.slice aot r.head.terms.length capt) (sl g plain.length) bv hvs (zdr r 5) (-1),u.oneCell'=true:=z5l rfl rfl (by rw[hbv];rfl) (HoldsK.one hh3 hM3.hlen)
         have hlen:=z5k r (.slice aot r.head.terms.length capt) (sl g plain.length) bv hvs (zdr r 5) (-1) hM3.hlen hM3.blen
         have hM':=hM3
         have hJM:=HJM.out w3 (-1) hM3.below hh3 hS3 hB3
         have hjc:(jc r (.slice aot r.head.terms.length capt) (sl g plain.length) bv hvs (zdr r 5) (-1))=zb6 (za4 r plain nots (-1)) ⟨.slice aot r.head.terms.length capt,sl g plain.length,bv,hvs,pts,bps⟩:=rfl
         have HJC:Hid (jc r (.slice aot r.head.terms.length capt) (sl g plain.length) bv hvs (zdr r 5) (-1)=zb6 (za4 r plain nots (-1)) ⟨.slice aot r.head.terms.length capt,sl g plain.length,bv,hvs,pts,bps⟩):=hjc
         clear hjc
         have hbx:=hM3.box
         generalize jc r (.slice aot r.head.terms.length capt) (sl g plain.length) bv hvs (zdr r 5) (-1)=cs at *
         refine wp_region_lit ?_
         refine wpList_load_mid rfl 232 (.tmp 7) rfl jb 0 (by rfl) cs _ (hbx.range) Tryz.underlying232 rfl (by rw[hlen];exact Tryz.infoJoin) ?_
         refine wpList_store_mid rfl 232 (.tmp 6) (.tmp 87) rfl (w.heap.size+1) 0 cs.toArray (by rfl) (by rfl) (by show World.there _ _ 0 cs.length;rw[hlen];exact(zhr hM').there) (by show _=some cs.length;rw[hlen];exact Tryz.infoJoin) (all_oneCell_toArray hone) ?_
         refine wpList_nil ?_
         have hs4:zao [w.heap.size+1] w3 (w3.setCells (w.heap.size+1) 0 cs):=zao.sets _ _ _ _
         have hb6:Box (w3.setCells (w.heap.size+1) 0 cs) (w.heap.size+1) cs.toArray 232:=zi4 (zhr hM') hlen
         have hJ4:=hJM.saveJ hs4 (OfT.box (zhr hM').choose_spec.1)
         have hb4:Below w.heap.size w (w3.setCells (w.heap.size+1) 0 cs):=hM3.below.trans (hs4.below (by simp) hM3.below.size)
         generalize w3.setCells (w.heap.size+1) 0 cs=w5 at *
         go_wp2
         (try simp only[Exit.inBlock,Exit.then])
         refine bodyPost_ret (v:=.agg cs.toArray) (zg3 rfl _ _ _ _ _ (by rfl) (run_loadVar_mid w5 (w.heap.size+1) 0 232 cs _ hb6.range Tryz.underlying232 rfl (by rw[hlen];exact Tryz.infoJoin))) rfl ⟨_,by rw[HJN.out,HJC.out],by rw[HJN.out];exact hJ4,rfl,HBPS.out,hb4⟩
        |false =>
         simp only[Bool.false_eq_true,if_false] at HJN
         go_upto_region 23 with (first|(go_at_call 152;refine HBA.out.mono ?_;rintro e w2 ⟨rfl,hb2⟩))
         have hM3:=HM.out.next hb2
         have hh3:=HH.out.below hb2
         have hS3:=zaa HS.out hb2
         have hB3:=zaa HB.out hb2
         have hone:∀ u∈jc r (.slice aot r.head.terms.length capt) (sl g plain.length) bv hvs (zdr r 5) (zo3 plain),u.oneCell'=true:=z5l rfl rfl (by rw[hbv];rfl) (HoldsK.one hh3 hM3.hlen)
         have hlen:=z5k r (.slice aot r.head.terms.length capt) (sl g plain.length) bv hvs (zdr r 5) (zo3 plain) hM3.hlen hM3.blen
         have hM':=hM3
         have hJM:=HJM.out w2 (zo3 plain) hM3.below hh3 hS3 hB3
         have hjc:(jc r (.slice aot r.head.terms.length capt) (sl g plain.length) bv hvs (zdr r 5) (zo3 plain))=zb6 (za4 r plain nots (zo3 plain)) ⟨.slice aot r.head.terms.length capt,sl g plain.length,bv,hvs,pts,bps⟩:=rfl
         have HJC:Hid (jc r (.slice aot r.head.terms.length capt) (sl g plain.length) bv hvs (zdr r 5) (zo3 plain)=zb6 (za4 r plain nots (zo3 plain)) ⟨.slice aot r.head.terms.length capt,sl g plain.length,bv,hvs,pts,bps⟩):=hjc
         clear hjc
         have hbx:=hM3.box
         generalize jc r (.slice aot r.head.terms.length capt) (sl g plain.length) bv hvs (zdr r 5) (zo3 plain)=cs at *
         refine wp_region_lit ?_
         refine wpList_load_mid rfl 232 (.tmp 7) rfl jb 0 (by rfl) cs _ (hbx.range) Tryz.underlying232 rfl (by rw[hlen];exact Tryz.infoJoin) ?_
         refine wpList_store_mid rfl 232 (.tmp 6) (.tmp 87) rfl (w.heap.size+1) 0 cs.toArray (by rfl) (by rfl) (by show World.there _ _ 0 cs.length;rw[hlen];exact(zhr hM').there) (by show _=some cs.length;rw[hlen];exact Tryz.infoJoin) (all_oneCell_toArray hone) ?_
         refine wpList_nil ?_
         have hs4:zao [w.heap.size+1] w2 (w2.setCells (w.heap.size+1) 0 cs):=zao.sets _ _ _ _
         have hb6:Box (w2.setCells (w.heap.size+1) 0 cs) (w.heap.size+1) cs.toArray 232:=zi4 (zhr hM') hlen
         have hJ4:=hJM.saveJ hs4 (OfT.box (zhr hM').choose_spec.1)
         have hb4:Below w.heap.size w (w2.setCells (w.heap.size+1) 0 cs):=hM3.below.trans (hs4.below (by simp) hM3.below.size)
         generalize w2.setCells (w.heap.size+1) 0 cs=w5 at *
         go_wp2
         (try simp only[Exit.inBlock,Exit.then])
         refine bodyPost_ret (v:=.agg cs.toArray) (zg3 rfl _ _ _ _ _ (by rfl) (run_loadVar_mid w5 (w.heap.size+1) 0 232 cs _ hb6.range Tryz.underlying232 rfl (by rw[hlen];exact Tryz.infoJoin))) rfl ⟨_,by rw[HJN.out,HJC.out],by rw[HJN.out];exact hJ4,rfl,HBPS.out,hb4⟩
end Go.Proofs.YteampbddflhngabGreat
