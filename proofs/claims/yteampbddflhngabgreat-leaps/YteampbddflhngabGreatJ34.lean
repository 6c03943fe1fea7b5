import Derived.Test.YteampbddflhngabGreatJ28
import Derived.Test.YteampbddflhngabGreatJ33
import Derived.Test.YteampbddflhngabGreatJ08
import Derived.Test.YteampbddflhngabGreatJ29
import Derived.Deep.RegionHeld3
import Derived.Test.YteampbddflhngabGreatJ32
import Derived.Test.YteampbddflhngabGreatJ06

namespace Go.Proofs.YteampbddflhngabGreat
set_option maxRecDepth 100000
set_option maxHeartbeats 2000000
open Go.RowKit
variable {lo:Nat}
def CAt(lo:Nat)(w:World)(cb o:Nat)(ns:List ByteArray):Prop:=cb < w.heap.size/\∃ v,w.cell? ⟨cb,o,none⟩=some v/\SIn lo w v ns
theorem CAt.below{w w':World}{cb o:Nat}{ns:List ByteArray}(h:CAt lo w cb o ns)(hb:Below w.heap.size w w'):CAt lo w' cb o ns:=by
 obtain⟨h1,v,h2,h3⟩:=h;exact⟨Nat.lt_of_lt_of_le h1 hb.size,v,(hb.cell h1).trans h2,h3.below hb⟩
theorem z0g(w:World)(cb o:Nat)(ns:List ByteArray)(x:ByteArray)(h:CAt lo w cb o ns)(hl:ns.length<=1000) :
  Calls Tryz.prog 108 #[.pointer (some ⟨cb,o,none⟩),.string x] w fun e w'=>e=.returned (.int .i64 (zbl ns x:Nat))/\∃ m,w'=w.drewN m:=by
 obtain⟨hlt,v,hc,hs⟩:=h
 obtain⟨ao,cap,rfl⟩:=hs.shape
 go_enter Tryz.func108,Tryz.ntmps108
 go_wp2
 go_quiet (fail)
 have hB:Below w.heap.size w (w.drewN nq):=zax (Below.refl _ _) _
 have hc2:=(hB.cell (p:=⟨cb,o,none⟩) hlt).trans hc
 have hlt2:cb < (w.drewN nq).heap.size:=Nat.lt_of_lt_of_le hlt hB.size
 have hs2:=hs.below hB
 have HEX:Hid (∃ m,w.drewN nq=w.drewN m):=⟨nq,rfl⟩
 clear hc hlt
 generalize w.drewN nq=w1 at *
 go_wp2
 go_loopg [5,6] (ns.length+1) (fun k v5 v6 wr=>∃ l h:Nat,v5=.int .i64 l/\v6=.int .i64 h/\h<=ns.length/\l<=ns.length/\h - l < k/\Hid (zbl ns x=halves ns x k l h)/\wr=w1)
 case atStart=>exact⟨0,ns.length,rfl,rfl,by omega,by omega,by omega,rfl,rfl⟩
 case round =>
  obtain⟨l,h,rfl,rfl,hh,hll,hgk,HP,rfl⟩:=hrel
  cases gk with
  |zero=>omega
  |succ m =>
   by_cases hlh:l < h
   ·obtain⟨md,hmd⟩:∃ md,md=l+(h - l) / 2:=⟨_,rfl⟩
    have hm1:l<=md:=by omega
    have hm2:md < h:=by omega
    have hmI:(l:Int)+((h:Int) - (l:Int)).tdiv 2=(md:Int):=by
     rw[Int.tdiv_eq_ediv_of_nonneg (by omega)];omega
    have hmn:md < ns.length:=by omega
    have q:=HP.out
    unfold halves at q
    rw[if_pos hlh,← hmd,show ns.getD md ByteArray.empty=ns[md] from by simp[List.getD_eq_getElem?_getD,hmn]] at q
    obtain⟨g,rfl,hg,hcell⟩:=hs2.cell md hmn
    clear hmd
    cases hL:ltB ns[md] x with
    |true =>
     rw[hL,if_pos rfl] at q
     have HQ:Hid (zbl ns x=halves ns x m (md+1) h):=q
     unfold ltB at hL
     clear q HP
     generalize ns[md]=y at *
     go_wp2
     go_roundg m
     case measure=>omega
     case rel=>exact⟨md+1,h,by go_num,rfl,hh,by omega,by omega,HQ,rfl⟩
    |false =>
     rw[hL,if_neg (by simp)] at q
     have HQ:Hid (zbl ns x=halves ns x m l md):=q
     unfold ltB at hL
     clear q HP
     generalize ns[md]=y at *
     go_wp2
     go_roundg m
     case measure=>omega
     case rel=>exact⟨l,md,rfl,rfl,by omega,hll,by omega,HQ,rfl⟩
   ·have q:=HP.out
    unfold halves at q
    rw[if_neg hlh] at q
    have HQ:Hid (zbl ns x=l):=q
    clear q HP
    go_wp2
    go_ret
    exact⟨by rw[HQ.out];rfl,HEX.out⟩
theorem z7b(w:World)(cb o:Nat)(ns:List ByteArray)(x:ByteArray)(h:CAt lo w cb o ns)(hl:ns.length<=1000) :
  Calls Tryz.prog 81 #[.pointer (some ⟨cb,o,none⟩),.string x] w fun e w'=>e=.returned (.tuple #[.int .i64 (((ze6 ns x).getD 0:Nat):Int),.bool (ze6 ns x).isSome])/\∃ m,w'=w.drewN m:=by
 have HP:Hid (Calls Tryz.prog 108 #[.pointer (some ⟨cb,o,none⟩),.string x] w fun e w'=>e=.returned (.int .i64 (zbl ns x:Nat))/\∃ m,w'=w.drewN m):=z0g w cb o ns x h hl
 obtain⟨hlt,v,hc,hs⟩:=h
 obtain⟨ao,cap,rfl⟩:=hs.shape
 have HE:Hid (ze6 ns x=if zbl ns x < ns.length/\ns.getD (zbl ns x) ByteArray.empty=x then some (zbl ns x) else none):=rfl
 generalize zbl ns x=pc at *
 by_cases h1:pc < ns.length
 ·have eg:ns.getD pc ByteArray.empty=ns[pc]:=by simp[List.getD_eq_getElem?_getD,h1]
  rw[eg] at HE
  by_cases h2:ns[pc]=x
  ·rw[if_pos ⟨h1,h2⟩] at HE
   obtain⟨g,rfl,hg,hcell⟩:=hs.cell pc h1
   have hse:=zg4 h2
   clear h2 eg
   generalize ns[pc]=y at *
   go_enter Tryz.func81,Tryz.ntmps81
   go_wp2_with (first|(go_at_call 108;refine HP.out.mono ?_;rintro r w' ⟨rfl,m,rfl⟩;have hc2:=((zax (Below.refl w.heap.size w) m).cell (p:=⟨cb,o,none⟩) hlt).trans hc;have hlt2:cb < (w.drewN m).heap.size:=hlt;have hx:=((zax (Below.refl w.heap.size w) m).cell (p:=⟨g,pc,none⟩) hg).trans hcell;have hg2:g < (w.drewN m).heap.size:=hg))
   go_ret2
   exact⟨by rw[HE.out];rfl,m,rfl⟩
  ·rw[if_neg (fun q=>h2 q.2)] at HE
   obtain⟨g,rfl,hg,hcell⟩:=hs.cell pc h1
   have hse:=zf3 h2
   clear h2 eg
   generalize ns[pc]=y at *
   go_enter Tryz.func81,Tryz.ntmps81
   go_wp2_with (first|(go_at_call 108;refine HP.out.mono ?_;rintro r w' ⟨rfl,m,rfl⟩;have hc2:=((zax (Below.refl w.heap.size w) m).cell (p:=⟨cb,o,none⟩) hlt).trans hc;have hlt2:cb < (w.drewN m).heap.size:=hlt;have hx:=((zax (Below.refl w.heap.size w) m).cell (p:=⟨g,pc,none⟩) hg).trans hcell;have hg2:g < (w.drewN m).heap.size:=hg))
   go_ret2
   exact⟨by rw[HE.out];rfl,m,rfl⟩
 ·rw[if_neg (fun q=>h1 q.1)] at HE
  have h1':ns.length<=pc:=by omega
  go_enter Tryz.func81,Tryz.ntmps81
  go_wp2_with (first|(go_at_call 108;refine HP.out.mono ?_;rintro r w' ⟨rfl,m,rfl⟩;have hc2:=((zax (Below.refl w.heap.size w) m).cell (p:=⟨cb,o,none⟩) hlt).trans hc;have hlt2:cb < (w.drewN m).heap.size:=hlt))
  go_ret2
  exact⟨by rw[HE.out];rfl,m,rfl⟩
theorem z3p(w:World)(cb o:Nat)(ns:List ByteArray)(k:Nat)(h:CAt lo w cb o ns) :
  Calls Tryz.prog 80 #[.pointer (some ⟨cb,o,none⟩),.int .i64 k] w fun e w'=>e=.returned (.string (ns.getD k ByteArray.empty))/\w'=w:=by
 obtain⟨hlt,v,hc,hs⟩:=h
 obtain⟨ao,cap,rfl⟩:=hs.shape
 by_cases h1:k < ns.length
 ·have HE:Hid (ns.getD k ByteArray.empty=ns[k]):=by simp[Hid,List.getD_eq_getElem?_getD,h1]
  obtain⟨g,rfl,hg,hcell⟩:=hs.cell k h1
  generalize ns[k]=y at *
  go_enter Tryz.func80,Tryz.ntmps80
  go_wp2
  go_ret
  exact⟨by rw[HE.out];rfl,rfl⟩
 ·have HE:Hid (ns.getD k ByteArray.empty=ByteArray.empty):=by simp[Hid,List.getD_eq_getElem?_getD,List.getElem?_eq_none (Nat.le_of_not_lt h1)]
  have h1':ns.length<=k:=by omega
  go_enter Tryz.func80,Tryz.ntmps80
  go_wp2
  go_ret
  exact⟨by rw[HE.out];rfl,rfl⟩
set_option maxHeartbeats 4000000
def zdi(ns:List ByteArray)(row:zaq)(ar m:Nat):List ByteArray:=(List.range ar).map fun i=>if i < m then ns.getD (row.getD i 0) ByteArray.empty else ByteArray.empty
theorem zls(ns:List ByteArray)(row:zaq)(ar m:Nat):(zdi ns row ar m).length=ar:=by simp[zdi]
theorem zv1(ns:List ByteArray)(row:zaq)(ar:Nat):zdi ns row ar 0=List.replicate ar ByteArray.empty:=by
 apply List.ext_getElem
 ·simp[zdi]
 ·intro i h1 h2;simp[zdi]
theorem zy9(ns:List ByteArray)(row:zaq)(ar m:Nat):(zdi ns row ar m).set m (ns.getD (row.getD m 0) ByteArray.empty)=zdi ns row ar (m+1):=by
 apply List.ext_getElem
 ·simp[zdi]
 ·intro i h1 h2
  simp only[List.getElem_set]
  by_cases e:m=i
  ·subst e;simp[zdi]
  ·rw[if_neg e]
   simp only[zdi,List.getElem_map,List.getElem_range]
   by_cases hi:i < m
   ·rw[if_pos hi,if_pos (by omega)]
   ·rw[if_neg hi,if_neg (by omega)]
theorem zv0(ns:List ByteArray)(row:zaq)(ar m:Nat)(h:ar<=m):zdi ns row ar (m+1)=zdi ns row ar m:=by
 apply List.ext_getElem
 ·simp[zdi]
 ·intro i h1 h2
  rw[zls] at h1
  simp only[zdi,List.getElem_map,List.getElem_range]
  rw[if_pos (by omega),if_pos (by omega)]
attribute [local go_sem] Tryz.row0 Tryz.row1 Tryz.row2
theorem zy1(w:World)(rb ar x y z:Nat)(ns:List ByteArray)(h:CAt lo w rb 1 ns)(har:ar<=1000) :
  Calls Tryz.prog 52 #[.pointer (some ⟨rb,0,none⟩),.agg #[.int .i64 (x:Nat),.int .i64 (y:Nat),.int .i64 (z:Nat)],.int .i64 ar] w fun e w'=>∃ g,w.heap.size<=g/\e=.returned (.slice (some ⟨g,0,none⟩) ar ar)/\SIn w.heap.size w' (.slice (some ⟨g,0,none⟩) ar ar) (zdi ns [x,y,z] ar 3)/\Below w.heap.size w w':=by
 have HC:Hid (CAt lo w rb 1 ns):=h
 have hlt:=h.1
 obtain⟨i0,hi,hz0,hzs,hzb⟩:=info_parts Tryz.infoString
 have hmk:=fun W0:World=>run_make (P:=Tryz.prog) (w:=W0) 38 9 i0 _ Tryz.underlying38 hi hz0 .i64 .i64 (ar:Int) (ar:Int) (by omega) (Int.le_refl _) (by rw[hzb];omega) (by omega)
 rw[hzs] at hmk
 clear h
 go_enter Tryz.func52,Tryz.ntmps52
 go_upto_region 3 with fail
 have hB1:Below w.heap.size w ((w.alloc (.cells #[.int .i64 (x:Nat),.int .i64 (y:Nat),.int .i64 (z:Nat)] 116)).alloc (.cells (madeCells #[.string ByteArray.empty] ar) 9)):=(by go_grown)
 have hrow:=zhn (w.alloc (.cells #[.int .i64 (x:Nat),.int .i64 (y:Nat),.int .i64 (z:Nat)] 116)) ar 9 (.string ByteArray.empty) (by unfold maxLen;omega)
 have hzz:(w.alloc (.cells #[.int .i64 (x:Nat),.int .i64 (y:Nat),.int .i64 (z:Nat)] 116)).heap.size=w.heap.size+1:=by simp
 rw[hzz] at hrow
 have HR0:Hid (World.ownsRow ((w.alloc (.cells #[.int .i64 (x:Nat),.int .i64 (y:Nat),.int .i64 (z:Nat)] 116)).alloc (.cells (madeCells #[.string ByteArray.empty] ar) 9)) w.heap.size 9 1 (.slice (some ⟨w.heap.size+1,0,none⟩) ar ar) ar ((zdi ns [x,y,z] ar 0).map Value.string)):=by
  rw[Hid,zv1,List.map_replicate]
  exact zbb hrow (by omega)
 clear hrow hzz hmk
 generalize ((w.alloc (.cells #[.int .i64 (x:Nat),.int .i64 (y:Nat),.int .i64 (z:Nat)] 116)).alloc (.cells (madeCells #[.string ByteArray.empty] ar) 9))=w1 at *
 generalize hg:w.heap.size+1=g at *
 have hwg:w.heap.size < g:=by omega
 clear hg
 go_loopw [13] (fun v13 wr=>∃ m:Nat,m<=3/\v13=.int .i64 m/\Below w.heap.size w wr/\Hid (wr.ownsRow w.heap.size 9 1 (.slice (some ⟨g,0,none⟩) ar ar) ar ((zdi ns [x,y,z] ar m).map Value.string))) (fun i _=>3 - (intOf i).toNat)
 case atStart=>exact⟨0,by omega,rfl,hB1,HR0⟩
 case round =>
  clear HR0 hB1
  obtain⟨m,hm,rfl,hbk,HR⟩:=hrel
  have hgl:g < wr.heap.size:=zdk HR.out rfl
  have hfz:=zby HR.out
  have hrl:rb < wr.heap.size:=Nat.lt_of_lt_of_le hlt hbk.size
  by_cases hm3:m < 3
  ·have HN:Hid (∀ v:Nat,Calls Tryz.prog 80 #[.pointer (some ⟨rb,1,none⟩),.int .i64 (v:Nat)] wr fun e w'=>e=.returned (.string (ns.getD v ByteArray.empty))/\w'=wr):=fun v=>z3p wr rb 1 ns v (HC.out.below hbk)
   by_cases ha:m < ar
   ·obtain⟨sx,hsx⟩:∃ sx,wr.cell? ⟨g,m,none⟩=some sx:=by
     obtain⟨g',cap',hv',_,_,hcl'⟩:=zas HR.out (by omega)
     simp only[Value.slice.injEq,Option.some.injEq,Addr.mk.injEq,and_true] at hv'
     have e:=hv'.1
     subst e
     exact⟨_,hcl' m _ (List.getElem?_eq_getElem (by simp[zdi];omega))⟩
    have hset:=zb7 HR.out m (by simp[zdi];omega) (.string (ns.getD ([x,y,z].getD m 0) ByteArray.empty))
    rw[← List.map_set,zy9] at hset
    have hai:(m:Int) < (ar:Int):=by omega
    have hbs:Below w.heap.size w (wr.setCell ⟨g,m,none⟩ (.string (ns.getD ([x,y,z].getD m 0) ByteArray.empty))):=hbk.setCell (by simp;omega) _
    have HSET:Hid (_/\_):=And.intro hset hbs
    clear hset hbs
    have hc:m=0∨m=1∨m=2:=by omega
    rcases hc with rfl|rfl|rfl
    all_goals (
     go_wp2_with (first|(go_at_call 80;refine(HN.out _).mono ?_;rintro e w' ⟨rfl,hww⟩;obtain rfl:=hww.symm)))
    ·exact⟨⟨1,by omega,rfl,by simpa [List.getD] using HSET.out.2,by have q:=HSET.out.1;simpa [Hid,List.getD] using q⟩,by simp[intOf]⟩
    ·exact⟨⟨2,by omega,rfl,by simpa [List.getD] using HSET.out.2,by have q:=HSET.out.1;simpa [Hid,List.getD] using q⟩,by simp[intOf]⟩
    ·exact⟨⟨3,by omega,rfl,by simpa [List.getD] using HSET.out.2,by have q:=HSET.out.1;simpa [Hid,List.getD] using q⟩,by simp[intOf]⟩
   ·have HRO:Hid (wr.ownsRow w.heap.size 9 1 (.slice (some ⟨g,0,none⟩) ar ar) ar ((zdi ns [x,y,z] ar (m+1)).map Value.string)):=by
     rw[zv0 ns [x,y,z] ar m (by omega)]
     exact HR
    have hai:¬ (m:Int) < (ar:Int):=by omega
    have hc:m=0∨m=1∨m=2:=by omega
    clear HR
    rcases hc with rfl|rfl|rfl
    all_goals go_wp2
    ·exact⟨⟨1,by omega,rfl,hbk,HRO⟩,by simp[intOf]⟩
    ·exact⟨⟨2,by omega,rfl,hbk,HRO⟩,by simp[intOf]⟩
    ·exact⟨⟨3,by omega,rfl,hbk,HRO⟩,by simp[intOf]⟩
  ·obtain rfl:m=3:=by omega
   go_wp2
   go_ret
   have q:=HR.out
   exact⟨g,by omega,rfl,by unfold SIn;rw[zls];exact q,hbk⟩
end Go.Proofs.YteampbddflhngabGreat
namespace Go.Proofs.YteampbddflhngabGreat
open Go.RowKit
variable {lo lp:Nat}
structure zzm (lo lp:Nat) (w:World) (rb:Nat) (t:List zav) (ns:List ByteArray) (R:zbt) (pv nv rv:Value) (tbs:List Nat):Prop where
 low:lo<=rb
 box:Box w rb #[pv,nv,rv,.int .i64 (R.count:Nat),.int .i64 (R.rounds:Nat),.int .i64 R.moves] 109
 preds:w.ownsRow lp 138 3 pv t.length (zck t)
 vals:SIn lo w nv ns
 rows:w.ownsRow lo 113 1 rv R.rows.length (pts tbs)
 tlen:tbs.length=R.rows.length
 tries:∀ p (_:p < R.rows.length) (_:p < tbs.length),∃ fp,zar lo w tbs[p] R.rows[p] fp
 few:t.length<=1000/\ns.length<=1000/\R.rows.length<=1000
theorem zzm.below{w w':World}{rb:Nat}{t:List zav}{ns:List ByteArray}{R:zbt}{pv nv rv:Value}{tbs:List Nat}(h:zzm lo lp w rb t ns R pv nv rv tbs)(hb:Below w.heap.size w w'):zzm lo lp w' rb t ns R pv nv rv tbs :=
 ⟨h.low,h.box.below hb,zaa h.preds hb,h.vals.below hb,zaa h.rows hb,h.tlen,fun p a b=>by obtain⟨fp,q⟩:=h.tries p a b;exact⟨fp,q.below hb⟩,h.few⟩
theorem zzm.tg{w:World}{rb:Nat}{t:List zav}{ns:List ByteArray}{R:zbt}{pv nv rv:Value}{tbs:List Nat}(h:zzm lo lp w rb t ns R pv nv rv tbs):TG lp w rb 0 t:=⟨pv,h.box.lt,h.box.rules.1 0,h.preds⟩
theorem zzm.cat{w:World}{rb:Nat}{t:List zav}{ns:List ByteArray}{R:zbt}{pv nv rv:Value}{tbs:List Nat}(h:zzm lo lp w rb t ns R pv nv rv tbs):CAt lo w rb 1 ns:=⟨h.box.lt,nv,h.box.rules.1 1,h.vals⟩
end Go.Proofs.YteampbddflhngabGreat
namespace Go.Proofs.YteampbddflhngabGreat
set_option maxRecDepth 100000
set_option maxHeartbeats 4000000
open Go.RowKit
variable {lo:Nat}
def zv8(w:World)(S:zre)(e:Ending)(w':World):Prop:=∃ av fv rv ps,e=.returned (.agg #[.int .i64 (S.width:Nat),av,fv,rv])/\zka w.heap.size w' av fv rv S ps/\Below w.heap.size w w'
def arK(t:List zav)(k:Nat):List Nat:=(t.take k).map (·.arity)++List.replicate (t.length - k) 0
theorem zuk(t:List zav)(k:Nat)(hk:k<=t.length):(arK t k).length=t.length:=by simp[arK];omega
theorem z5w(t:List zav)(k:Nat)(hk:k < t.length):(arK t k).set k (zd3 t k)=arK t (k+1):=by
 have e:zd3 t k=t[k].arity:=by simp[zd3,hk]
 obtain⟨m,hm⟩:∃ m,t.length - k=m+1:=⟨t.length - k - 1,by omega⟩
 unfold arK
 rw[e,List.set_append_right _ _ (by simp;omega),List.length_map,List.length_take,Nat.min_eq_left (by omega),Nat.sub_self,hm,List.replicate_succ,List.set_cons_zero,List.take_succ_eq_append_getElem hk,List.map_append,show t.length - (k+1)=m from by omega,List.append_assoc]
 rfl
theorem z5v(t:List zav):arK t t.length=t.map (·.arity):=by simp[arK]
theorem z4h{lo2:Nat}(w:World)(tb o cb:Nat)(t:List zav)(ns:List ByteArray)(cs:List zac)(cv ov:Value)(os:Option (List (Option (List Int))))(hT:TG lo w tb o t)(hC:z2v lo w cb ns)(htl:t.length<=1000)(hnl:ns.length<=1000)(hcs:CIn lo2 90 w cv cs)(hok:∀ c∈cs,c.head.args.length+zb9 c.body<=1000/\c.body.length<=900)(hcl:cs.length<=1000)(ho:zhi w ov os)(hol:(os.getD []).length<=2000000)(hoi:∀ o∈os.getD [],(o.getD []).length<=1000)(hst:∀ n,zdx t n<=1000000) :
  Calls Tryz.prog 47 #[cv,.pointer (some ⟨tb,o,none⟩),.pointer (some ⟨cb,0,none⟩),ov] w fun e w'=>zv8 w (zjx t ns os cs) e w':=by
 obtain⟨iI,hiI,hzI,hzsI,hzbI⟩:=info_parts Tryz.infoInt
 obtain⟨iF,hiF,hzF,hzsF,hzbF⟩:=info_parts Tryz.infoFact
 obtain⟨iR,hiR,hzR,hzsR,hzbR⟩:=info_parts Tryz.infoRule
 obtain⟨aoc,capc,rfl⟩:=hcs.shape
 obtain⟨aoo,capo,rfl⟩:=ho.shape
 have HCC:Hid (∀ W,Below w.heap.size w W->Calls Tryz.prog 69 #[.pointer (some ⟨cb,0,none⟩)] W fun e w'=>e=.returned (.int .i64 (ns.length:Nat))/\w'=W):=fun W hW=>zxs W cb ns (hC.below hW)
 have HPC:Hid (∀ W,Below w.heap.size w W->Calls Tryz.prog 70 #[.pointer (some ⟨tb,o,none⟩)] W fun e w'=>e=.returned (.int .i64 (t.length:Nat))/\w'=W):=fun W hW=>zx5 lo W tb o t (hT.below hW)
 have HPA:Hid (∀ W (i:Nat),Below w.heap.size w W->Calls Tryz.prog 53 #[.pointer (some ⟨tb,o,none⟩),.int .i64 i] W fun e w'=>e=.returned (.int .i64 (zd3 t i:Nat))/\w'=W):=fun W i hW=>zpa lo W tb o t i (hT.below hW)
 have HOA:Hid (∀ W (k:Nat),Below w.heap.size w W->Calls Tryz.prog 71 #[.slice aoo (os.getD []).length capo,.int .i64 k] W fun e w'=>∃ u,e=.returned u/\zhh W u (zei os k)/\w'=W):=fun W k hW=>zva W _ os k (ho.below hW) hol
 have HOL:Hid (∀ k,((zei os k).getD []).length<=1000):=fun k=>by
  unfold zei
  by_cases hk:k < (os.getD []).length
  ·rw[List.getD_eq_getElem?_getD,List.getElem?_eq_getElem hk];exact hoi _ (List.getElem_mem hk)
  ·rw[List.getD_eq_getElem?_getD,List.getElem?_eq_none (by omega)];simp
 have HMI:Hid (∀ W mb,Below w.heap.size w W->Box W mb #[.pointer (some ⟨tb,o,none⟩),.pointer (some ⟨cb,0,none⟩)] 143->zia lo W mb tb o cb t ns):=fun W mb hW hb=>⟨hb,hT.below hW,hC.below hW,htl,hnl⟩
 have HCI:Hid (CIn lo2 90 w (.slice aoc cs.length capc) cs):=hcs
 have HOK:Hid (∀ c∈cs,c.head.args.length+zb9 c.body<=1000/\c.body.length<=900):=hok
 have HSN:Hid (∀ n,zdx t n<=1000000):=hst
 have HE:Hid (zjx t ns os cs={ width:=ns.length,arities:=t.map (·.arity),facts:=zeh t ns cs,rules:=zfe t ns os cs }):=rfl
 have hmk:=fun W:World=>run_make (P:=Tryz.prog) (w:=W) 70 3 iI _ Tryz.underlying70 hiI hzI .i64 .i64 (t.length:Int) (t.length:Int) (by omega) (Int.le_refl _) (by rw[hzbI];omega) (by omega)
 rw[hzsI] at hmk
 clear hT hC hcs ho hok hoi hst
 go_enter Tryz.func47,Tryz.ntmps47
 go_upto_region 3 with (first|(go_at_call 69;refine(HCC.out _ (by exact(by go_grown))).mono ?_;rintro e w1 ⟨rfl,hww⟩;obtain rfl:=hww.symm)|(go_at_call 70;refine(HPC.out _ (by exact(by go_grown))).mono ?_;rintro e w1 ⟨rfl,hww⟩;obtain rfl:=hww.symm))
 have hM:zja w.heap.size w ((((w.alloc (.cells #[.int .i64 0,.slice none 0 0,.slice none 0 0,.slice none 0 0] 99)).alloc (.cells #[.pointer (some ⟨tb,o,none⟩),.pointer (some ⟨cb,0,none⟩)] 143)).alloc (.cells (madeCells #[.int .i64 0] t.length) 3)).alloc (.cells #[.int .i64 (ns.length:Nat),.slice (some ⟨w.heap.size+1+1,0,none⟩) t.length t.length,.slice none 0 0,.slice none 0 0] 99)) (w.heap.size+1+1+1) w.heap.size (w.heap.size+1) (.pointer (some ⟨tb,o,none⟩)) (.pointer (some ⟨cb,0,none⟩)) (.slice (some ⟨w.heap.size+1+1,0,none⟩) t.length t.length) (.slice none 0 0) (.slice none 0 0) ns.length (arK t 0) [] [] []:=by
  refine⟨(Box.new _ _ _).at' (by simp),((((Box.new w _ _).up _).up _).up _),((((Box.new _ _ _).up _).up _).at' (by simp)),?_,World.ownsRow_nil _ _ _ _,⟨World.ownsRow_nil _ _ _ _,rfl,fun k a=>by simp at a,by simp⟩,(by go_grown),by omega,by omega,by omega⟩
  have q:=z4n ((w.alloc (.cells #[.int .i64 0,.slice none 0 0,.slice none 0 0,.slice none 0 0] 99)).alloc (.cells #[.pointer (some ⟨tb,o,none⟩),.pointer (some ⟨cb,0,none⟩)] 143)) t.length 3 (by unfold maxLen;omega)
  simp only[World.size_alloc] at q
  have q2:=zaa (zbb q (show w.heap.size<=w.heap.size+1+1 by omega)) ((Below.refl _ _).alloc (Nat.le_refl _) (.cells #[.int .i64 (ns.length:Nat),.slice (some ⟨w.heap.size+1+1,0,none⟩) t.length t.length,.slice none 0 0,.slice none 0 0] 99))
  rw[zuk t 0 (by omega),show arK t 0=List.replicate t.length 0 from by simp[arK]]
  exact q2
 generalize (((w.alloc (.cells #[.int .i64 0,.slice none 0 0,.slice none 0 0,.slice none 0 0] 99)).alloc (.cells #[.pointer (some ⟨tb,o,none⟩),.pointer (some ⟨cb,0,none⟩)] 143)).alloc (.cells (madeCells #[.int .i64 0] t.length) 3)).alloc (.cells #[.int .i64 (ns.length:Nat),.slice (some ⟨w.heap.size+1+1,0,none⟩) t.length t.length,.slice none 0 0,.slice none 0 0] 99)=w3 at *
 clear hmk HCC HPC
 have hM0:=hM.box
 obtain⟨hsc,hsf⟩:=hM0.rules
 have hsl:=hM0.lt
 go_wp2
 clear hsc hsf hsl hM0
 have HM:Hid (zja _ _ _ _ _ _ _ _ _ _ _ _ _ _ _ _):=hM
 clear hM
 go_loopw [29] (fun v29 wr=>∃ k:Nat,k<=t.length/\v29=.int .i64 k/\Hid (zja w.heap.size w wr (w.heap.size+1+1+1) w.heap.size (w.heap.size+1) (.pointer (some ⟨tb,o,none⟩)) (.pointer (some ⟨cb,0,none⟩)) (.slice (some ⟨w.heap.size+1+1,0,none⟩) t.length t.length) (.slice none 0 0) (.slice none 0 0) ns.length (arK t k) [] [] [])) (fun i _=>t.length - (intOf i).toNat)
 case atStart=>exact⟨0,Nat.zero_le _,rfl,HM⟩
 case round =>
  clear HM
  obtain⟨k,hk,rfl,HM⟩:=hrel
  have hbk:=HM.out.below
  have hszk:=hbk.size
  by_cases hlt:k < t.length
  ·have hbx:=HM.out.box
   obtain⟨hsc,hsf⟩:=hbx.rules
   have hsl:=hbx.lt
   have hs1:wr.cell? ⟨w.heap.size+1+1+1,1,none⟩=some (.slice (some ⟨w.heap.size+1+1,0,none⟩) t.length t.length):=by rw[hsc];rfl
   have hari:=HM.out.ari
   have hal:=zuk t k hk
   have hkk:(k:Int) < (t.length:Int):=by omega
   obtain⟨g',cap',hv',_,hg',hcl'⟩:=zas hari (by omega)
   simp only[Value.slice.injEq,Option.some.injEq,Addr.mk.injEq,and_true] at hv'
   have hgg:=hv'.1
   clear hv'
   subst hgg
   obtain⟨ax,hax⟩:∃ ax:Nat,wr.cell? ⟨w.heap.size+1+1,k,none⟩=some (.int .i64 (ax:Nat)):=⟨_,hcl' k (.int .i64 ((arK t k)[k]'(by omega):Nat)) (by simp[ivN,hal,hlt])⟩
   have haf:=zby hari
   have hset:=zb7 hari k (by simp;omega) (.int .i64 (zd3 t k:Nat))
   have HSET:Hid (((arK t k).map ivN).set k (.int .i64 (zd3 t k:Nat))=(arK t (k+1)).map ivN):=by rw[Hid,← z5w t k hlt,List.map_set];rfl
   rw[HSET.out,hal] at hset
   have HPA1:Hid (∀ W,Below wr.heap.size wr W->Calls Tryz.prog 53 #[.pointer (some ⟨tb,o,none⟩),.int .i64 k] W fun e w'=>e=.returned (.int .i64 (zd3 t k:Nat))/\w'=W):=fun W hW=>HPA.out W k (zae hbk hW (Nat.le_refl _))
   clear hcl' hal
   generalize zd3 t k=ar at *
   go_wp2
   go_region_held3 (fun w'=>w'.cell? ⟨w.heap.size+1+1+1,1,none⟩=some (.slice (some ⟨w.heap.size+1+1,0,none⟩) t.length t.length)) (first|go_keep|(go_simp;done)) (first|(go_at_call 53;refine(HPA1.out _ (by exact(by go_grown))).mono ?_;rintro e w4 ⟨rfl,hww⟩;obtain rfl:=hww.symm))
   go_wp2
   have HMN:zja w.heap.size w (wr.setCell ⟨w.heap.size+1+1,k,none⟩ (.int .i64 (ar:Nat))) (w.heap.size+1+1+1) w.heap.size (w.heap.size+1) (.pointer (some ⟨tb,o,none⟩)) (.pointer (some ⟨cb,0,none⟩)) (.slice (some ⟨w.heap.size+1+1,0,none⟩) t.length t.length) (.slice none 0 0) (.slice none 0 0) ns.length (arK t (k+1)) [] [] [] :=
    ⟨HM.out.box.set_ne (by omega) _ _,HM.out.res.set_ne (by omega) _ _,HM.out.mak.set_ne (by omega) _ _,by rw[zuk t (k+1) (by omega)];exact hset,World.ownsRow_nil _ _ _ _,⟨World.ownsRow_nil _ _ _ _,rfl,fun k a=>by simp at a,by simp⟩,hbk.setCell (by simp;omega) _,HM.out.low⟩
   go_roundw
   case rel=>exact⟨k+1,by omega,by go_num,HMN.next ((Below.refl _ _).drew) (Nat.le_refl _)⟩
   case measure=>simp[intOf];omega
  ·have hke:k=t.length:=by omega
   subst hke
   rw[z5v] at HM
   clear hk hlt HPA
   go_wp2
   go_loopw [42] (fun v42 wr=>∃(k:Nat) (fv rv:Value) (ps:List (Value × Value × Value)),k<=cs.length/\v42=.int .i64 k/\Hid (zja w.heap.size w wr (w.heap.size+1+1+1) w.heap.size (w.heap.size+1) (.pointer (some ⟨tb,o,none⟩)) (.pointer (some ⟨cb,0,none⟩)) (.slice (some ⟨w.heap.size+1+1,0,none⟩) t.length t.length) fv rv ns.length (t.map (·.arity)) (zeh t ns (cs.take k)) (zfe t ns os (cs.take k)) ps)) (fun i _=>cs.length - (intOf i).toNat)
   case atStart=>exact⟨0,_,_,_,Nat.zero_le _,rfl,HM⟩
   case round =>
    clear HM hbk hszk
    obtain⟨k,fv,rv,ps,hk,rfl,HM⟩:=hrel
    have hbk:=HM.out.below
    have hszk:=hbk.size
    by_cases hlt:k < cs.length
    ·obtain⟨g,ao2,cap2,ao3,cap3,hao,hg,hd0,hd1,hd2,hd3,hsk,hlk⟩:=HCI.out.cell k hlt
     subst hao
     have hx0:=(hbk.cell (p:=⟨g,k * 4,none⟩) hg).trans hd0
     have hx1:=(hbk.cell (p:=⟨g,k * 4+1,none⟩) hg).trans hd1
     have hx2:=(hbk.cell (p:=⟨g,k * 4+2,none⟩) hg).trans hd2
     have hx3:=(hbk.cell (p:=⟨g,k * 4+3,none⟩) hg).trans hd3
     have hgr:g < wr.heap.size:=by omega
     obtain⟨hc1,hc2⟩:=HOK.out cs[k] (List.getElem_mem hlt)
     have HF1:=zuv t ns cs k hlt
     have HR1:=zvo t ns os cs k hlt
     have HSK:Hid (SIn lo2 w _ _):=hsk
     have HLK:Hid (LIn lo2 w _ _):=hlk
     have hfl:=zx0 t ns (cs.take k)
     have hrl:=zy2 t ns os (cs.take k)
     rw[List.length_take,Nat.min_eq_left (by omega)] at hfl hrl
     clear hd0 hd1 hd2 hd3 hsk hlk
     generalize cs[k]=c at *
     by_cases hb0:c.body.length > 0
     ·have hb0':(c.body.length:Int) > 0:=by omega
      simp only[hb0,if_true,List.append_nil] at HF1 HR1
      have HF2:Hid (zeh t ns (cs.take (k+1))=zeh t ns (cs.take k)):=HF1
      have HR2:Hid (zfe t ns os (cs.take (k+1))=zfe t ns os (cs.take k)++[zn2 t ns c (zei os k)]):=HR1
      clear HF1 HR1
      generalize zeh t ns (cs.take k)=fs at *
      generalize zfe t ns os (cs.take k)=rs at *
      have HRU:Hid (∀ W u,Below wr.heap.size wr W->zhh W u (zei os k)->Calls Tryz.prog 72 #[.pointer (some ⟨w.heap.size+1,0,none⟩),.agg #[.bool c.head.neg,.string c.head.pred,.slice ao2 c.head.args.length cap2,.slice ao3 c.body.length cap3],u] W fun e w'=>zwa W (zn2 t ns c (zei os k)) e w'):=fun W u hW hu=>z4v W (w.heap.size+1) tb o cb t ns c _ _ u (zei os k) (HMI.out W _ (zae hbk hW (Nat.le_refl _)) (HM.out.mak.below hW)) (HSK.out.below (zae hbk hW (Nat.le_refl _))) (HLK.out.below (zae hbk hW (Nat.le_refl _))) hc1 hc2 hu (HOL.out k) (HSN.out _)
      have HOA1:Hid (∀ W,Below wr.heap.size wr W->Calls Tryz.prog 71 #[.slice aoo (os.getD []).length capo,.int .i64 k] W fun e w'=>∃ u,e=.returned u/\zhh W u (zei os k)/\w'=W):=fun W hW=>HOA.out W k (zae hbk hW (Nat.le_refl _))
      generalize zn2 t ns c (zei os k)=r at *
      have hown:=HM.out.rul.own
      obtain⟨aor,capr,hrv⟩:=zab hown
      subst hrv
      have HRU2:Hid (∀ W u,Below wr.heap.size wr W->zhh W u (zei os k)->Calls Tryz.prog 72 #[.pointer (some ⟨w.heap.size+1,0,none⟩),.agg #[.bool c.head.neg,.string c.head.pred,.slice ao2 c.head.args.length cap2,.slice ao3 c.body.length cap3],u] W fun e w'=>∃ tv pv nv,e=.returned (.agg #[.int .i64 (r.stratum:Nat),.int .i64 (r.vars:Nat),.int .i64 (r.head.pred:Nat),tv,pv,nv])/\zdj W.heap.size w' tv pv nv r/\Below W.heap.size W w'):=HRU
      clear HRU
      go_wp2_with (first|(go_at_call 71;refine(HOA1.out _ (by exact(by go_grown))).mono ?_;rintro e w1 ⟨u,rfl,hu,hww⟩;obtain rfl:=hww.symm;obtain⟨aou,capu,rfl⟩:=hu.shape)|(go_at_call 72;refine(HRU2.out _ _ (by exact(by go_grown)) hu).mono ?_;rintro e w2 ⟨tv,pv,nv,rfl,hR2,hb2⟩;obtain⟨ao6,cap6,rfl⟩:=hR2.head.shape;obtain⟨ao7,cap7,rfl⟩:=hR2.plain.shape;obtain⟨ao8,cap8,rfl⟩:=hR2.nots.shape;have hB2:Below wr.heap.size wr w2:=(zae (by go_grown) hb2 (Nat.le_refl _));have hbx2:=HM.out.box.below hB2;obtain⟨hbx2c,hbx2f⟩:=hbx2.rules;have hbx2l:=hbx2.lt;have hz2:=hB2.size;have hown2:=zaa hown hB2)|(at_builtin;refine zca w2 _ [.int .i64 (r.stratum:Nat),.int .i64 (r.vars:Nat),.int .i64 (r.head.pred:Nat),.slice ao6 r.head.terms.length cap6,.slice ao7 r.plain.length cap7,.slice ao8 r.nots.length cap8] _ rfl (.tmp 58) (.tmp 60) 97 rfl w.heap.size 150 iR _ 6 96 Tryz.underlying97 hiR hzR hzsR hzbR rfl (by decide) (.slice aor rs.length capr) rs.length (zc5 rs ps) rfl hown2 (by exact(by go_grown)) _ _ rfl (by simp) rfl (by simp[Value.oneCell']) (by omega) (by omega) (by omega) ?_;intro v' w3 ho3 hS3 hat3;obtain⟨aov,capv,rfl⟩:=zab ho3;have hbx3:=hbx2.saveT hS3 (OfT.own hown2) (by decide);obtain⟨hbx3c,hbx3f⟩:=hbx3.rules;have hbx3l:=hbx3.lt))
      have hR2':zdj w.heap.size w2 _ _ _ r:=hR2.low (show w.heap.size<=_ by simp;omega)
      have HMN:zja _ _ _ _ _ _ _ _ _ _ _ _ _ _ _ _:=(HM.out.next hB2 (Nat.le_refl _)).pushR hS3 (zcr.push (r:=r) (p:=(.slice ao6 r.head.terms.length cap6,.slice ao7 r.plain.length cap7,.slice ao8 r.nots.length cap8)) (HM.out.rul.below hB2) (by omega) hR2' ho3 hS3) (by omega)
      go_roundw
      case rel=>exact⟨k+1,_,_,_,by omega,by go_num,by rw[HF2.out,HR2.out];exact HMN⟩
      case measure=>simp[intOf];omega
     ·have hb0':¬ (c.body.length:Int) > 0:=by omega
      simp only[hb0,if_false,List.append_nil] at HF1 HR1
      have HF2:Hid (zeh t ns (cs.take (k+1))=zeh t ns (cs.take k)++[zij t ns c]):=HF1
      have HR2:Hid (zfe t ns os (cs.take (k+1))=zfe t ns os (cs.take k)):=HR1
      clear HF1 HR1
      generalize zeh t ns (cs.take k)=fs at *
      generalize zfe t ns os (cs.take k)=rs at *
      have HFA:Hid (∀ W,Below wr.heap.size wr W->Calls Tryz.prog 73 #[.pointer (some ⟨w.heap.size+1,0,none⟩),.agg #[.bool c.head.neg,.string c.head.pred,.slice ao2 c.head.args.length cap2,.slice ao3 c.body.length cap3]] W fun e w'=>e=.returned (z6e (zij t ns c))/\Below W.heap.size W w'):=fun W hW=>z3s W (w.heap.size+1) tb o cb t ns c _ _ (HMI.out W _ (zae hbk hW (Nat.le_refl _)) (HM.out.mak.below hW)) (HSK.out.below (zae hbk hW (Nat.le_refl _))) (HLK.out.below (zae hbk hW (Nat.le_refl _))) (by omega)
      generalize zij t ns c=f at *
      have HFA2:Hid (∀ W,Below wr.heap.size wr W->Calls Tryz.prog 73 #[.pointer (some ⟨w.heap.size+1,0,none⟩),.agg #[.bool c.head.neg,.string c.head.pred,.slice ao2 c.head.args.length cap2,.slice ao3 c.body.length cap3]] W fun e w'=>e=.returned (.agg #[.int .i64 (f.pred:Nat),.int .i64 (f.row.getD 0 0:Nat),.int .i64 (f.row.getD 1 0:Nat),.int .i64 (f.row.getD 2 0:Nat)])/\Below W.heap.size W w'):=HFA
      have HFC:Hid (zct (fs++[f])=zct fs++[.int .i64 (f.pred:Nat),.int .i64 (f.row.getD 0 0:Nat),.int .i64 (f.row.getD 1 0:Nat),.int .i64 (f.row.getD 2 0:Nat)]):=zok fs f
      clear HFA
      generalize f.row.getD 0 0=f0 at *
      generalize f.row.getD 1 0=f1 at *
      generalize f.row.getD 2 0=f2 at *
      have hown:wr.ownsRow w.heap.size 153 4 fv fs.length (zct fs):=HM.out.fac
      obtain⟨aof,capf,hfv⟩:=zab hown
      subst hfv
      go_wp2_with (first|(go_at_call 73;refine(HFA2.out _ (by exact(by go_grown))).mono ?_;rintro e w2 ⟨rfl,hb2⟩;have hB2:Below wr.heap.size wr w2:=(zae (by go_grown) hb2 (Nat.le_refl _));have hbx2:=HM.out.box.below hB2;obtain⟨hbx2c,hbx2f⟩:=hbx2.rules;have hbx2l:=hbx2.lt;have hz2:=hB2.size;have hown2:=zaa hown hB2)|(at_builtin;refine zca w2 _ [.int .i64 (f.pred:Nat),.int .i64 (f0:Nat),.int .i64 (f1:Nat),.int .i64 (f2:Nat)] _ rfl (.tmp 66) (.tmp 68) 96 rfl w.heap.size 153 iF _ 4 32 Tryz.underlying96 hiF hzF hzsF hzbF rfl (by decide) (.slice aof fs.length capf) fs.length (zct fs) rfl hown2 (by exact(by go_grown)) _ _ rfl (by simp) rfl (by simp[Value.oneCell']) (by omega) (by omega) (by omega) ?_;intro v' w3 ho3 hS3 hat3;obtain⟨aov,capv,rfl⟩:=zab ho3;have hbx3:=hbx2.saveT hS3 (OfT.own hown2) (by decide);obtain⟨hbx3c,hbx3f⟩:=hbx3.rules;have hbx3l:=hbx3.lt))
      have hF3:zmq w.heap.size w3 (.slice aov (fs.length+1) capv) (fs++[f]):=by
       unfold zmq
       rw[HFC.out,List.length_append]
       exact ho3
      have HMN:zja _ _ _ _ _ _ _ _ _ _ _ _ _ _ _ _:=(HM.out.next hB2 (Nat.le_refl _)).pushF hS3 hF3 (by omega)
      go_roundw
      case rel=>exact⟨k+1,_,_,_,by omega,by go_num,by rw[HF2.out,HR2.out];exact HMN⟩
      case measure=>simp[intOf];omega
    ·have HP3:Hid (cs.take k=cs):=by rw[Hid,List.take_of_length_le (by omega)]
     rw[HP3.out] at HM
     have hbx:=HM.out.box
     have hrs:=HM.out.res
     obtain⟨hbc,hbf⟩:=hbx.rules
     have hbl:=hbx.lt
     obtain⟨hrc,hrf⟩:=hrs.rules
     have hrl:=hrs.lt
     obtain⟨aof,capf,hfv⟩:=zab HM.out.fac
     obtain⟨aor,capr,hrv⟩:=zab HM.out.rul.own
     subst hfv
     subst hrv
     generalize zeh t ns cs=fs at *
     generalize zfe t ns os cs=rs at *
     go_wp2
     (try simp only[Exit.inBlock,Exit.then])
     refine bodyPost_ret (v:=.agg #[.int .i64 (ns.length:Nat),.slice (some ⟨w.heap.size+1+1,0,none⟩) t.length t.length,.slice aof fs.length capf,.slice aor rs.length capr]) (by simp[results,Tryz.results47,go_sem,hrc]) rfl ⟨_,_,_,ps,by rw[HE.out],?_,?_⟩
     ·have hs4:zao [w.heap.size] wr ((((wr.setCell ⟨w.heap.size,0,none⟩ (.int .i64 (ns.length:Nat))).setCell ⟨w.heap.size,1,none⟩ (.slice (some ⟨w.heap.size+1+1,0,none⟩) t.length t.length)).setCell ⟨w.heap.size,2,none⟩ (.slice aof fs.length capf)).setCell ⟨w.heap.size,3,none⟩ (.slice aor rs.length capr)):=(((zao.set _ _ _ _).trans (zao.set _ _ _ _)).trans (zao.set _ _ _ _)).trans (zao.set _ _ _ _)
      have hMr:=OfT.box hrs
      rw[HE.out]
      exact⟨zak HM.out.ari hs4 hMr (by decide),zak HM.out.fac hs4 hMr (by decide),HM.out.rul.saveT hs4 hMr (by decide) (by decide) (by decide)⟩
     ·exact(((hbk.setCell (by simp) _).setCell (by simp) _).setCell (by simp) _).setCell (by simp) _
end Go.Proofs.YteampbddflhngabGreat
