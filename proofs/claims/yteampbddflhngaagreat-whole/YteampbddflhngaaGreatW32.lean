import Derived.Test.YteampbddflhngaaGreatW31
import Derived.Test.YteampbddflhngaaGreatW08
import Derived.Test.YteampbddflhngaaGreatW27
import Derived.Deep.RegionHeld3

namespace Go.Proofs.YteampbddflhngaaGreat
set_option maxRecDepth 100000
set_option maxHeartbeats 4000000
open Go.RowKit
variable {lo:Nat}
def za1(ns:List ByteArray)(row:zao)(ar m:Nat):List ByteArray:=(List.range ar).map fun i=>if i < m then ns.getD (row.getD i 0) ByteArray.empty else ByteArray.empty
theorem zdo(ns:List ByteArray)(row:zao)(ar m:Nat):(za1 ns row ar m).length=ar:=by simp[za1]
theorem zw4(ns:List ByteArray)(row:zao)(ar:Nat):za1 ns row ar 0=List.replicate ar ByteArray.empty:=by
 apply ubg
 ·simp[za1]
 ·intro i h1 h2;simp[za1]
theorem z0o(ns:List ByteArray)(row:zao)(ar m:Nat):(za1 ns row ar m).set m (ns.getD (row.getD m 0) ByteArray.empty)=za1 ns row ar (m+1):=by
 apply ubg
 ·simp[za1]
 ·intro i h1 h2
  simp only[ucb]
  by_cases e:m=i
  ·subst e;simp[za1]
  ·rw[if_neg e]
   simp only[za1,uaw,ub0]
   by_cases hi:i < m
   ·rw[if_pos hi,if_pos (by omega)]
   ·rw[if_neg hi,if_neg (by omega)]
theorem zw3(ns:List ByteArray)(row:zao)(ar m:Nat)(h:ar<=m):za1 ns row ar (m+1)=za1 ns row ar m:=by
 apply ubg
 ·simp[za1]
 ·intro i h1 h2
  rw[zdo] at h1
  simp only[za1,uaw,ub0]
  rw[if_pos (by omega),if_pos (by omega)]
attribute [local go_sem] Tryz.row0 Tryz.row1 Tryz.row2
theorem z0g(w:World)(rb ar x y z:Nat)(ns:List ByteArray)(h:CAt lo w rb 1 ns)(har:ar<=1000) :
  Calls Tryz.prog 79 #[.pointer (some ⟨rb,0,none⟩),.agg #[.int .i64 (x:Nat),.int .i64 (y:Nat),.int .i64 (z:Nat)],.int .i64 ar] w fun e w'=>∃ g,w.heap.size<=g/\e=.returned (.slice (some ⟨g,0,none⟩) ar ar)/\SIn w.heap.size w' (.slice (some ⟨g,0,none⟩) ar ar) (za1 ns [x,y,z] ar 3)/\Below w.heap.size w w':=by
 have HC:Hid (CAt lo w rb 1 ns):=h
 have hlt:=h.1
 obtain⟨i0,hi,hz0,hzs,hzb⟩:=info_parts Tryz.infoString
 have hmk:=fun W0:World=>run_make (P:=Tryz.prog) (w:=W0) 30 9 i0 _ Tryz.underlying30 hi hz0 .i64 .i64 (ar:Int) (ar:Int) (by omega) (Int.le_refl _) (by rw[hzb];omega) (by omega)
 rw[hzs] at hmk
 clear h
 go_enter Tryz.func79,Tryz.ntmps79
 go_upto_region 3 with fail
 have hB1:Below w.heap.size w ((w.alloc (.cells #[.int .i64 (x:Nat),.int .i64 (y:Nat),.int .i64 (z:Nat)] 165)).alloc (.cells (madeCells #[.string ByteArray.empty] ar) 9)):=(by go_grown)
 have hrow:=zhv (w.alloc (.cells #[.int .i64 (x:Nat),.int .i64 (y:Nat),.int .i64 (z:Nat)] 165)) ar 9 (.string ByteArray.empty) (by unfold maxLen;omega)
 have hzz:(w.alloc (.cells #[.int .i64 (x:Nat),.int .i64 (y:Nat),.int .i64 (z:Nat)] 165)).heap.size=w.heap.size+1:=by simp
 rw[hzz] at hrow
 have HR0:Hid (World.ownsRow ((w.alloc (.cells #[.int .i64 (x:Nat),.int .i64 (y:Nat),.int .i64 (z:Nat)] 165)).alloc (.cells (madeCells #[.string ByteArray.empty] ar) 9)) w.heap.size 9 1 (.slice (some ⟨w.heap.size+1,0,none⟩) ar ar) ar ((za1 ns [x,y,z] ar 0).map Value.string)):=by
  rw[Hid,zw4,List.map_replicate]
  exact zbf hrow (by omega)
 clear hrow hzz hmk
 generalize ((w.alloc (.cells #[.int .i64 (x:Nat),.int .i64 (y:Nat),.int .i64 (z:Nat)] 165)).alloc (.cells (madeCells #[.string ByteArray.empty] ar) 9))=w1 at *
 generalize hg:w.heap.size+1=g at *
 have hwg:w.heap.size < g:=by omega
 clear hg
 go_loopw [13] (fun v13 wr=>∃ m:Nat,m<=3/\v13=.int .i64 m/\Below w.heap.size w wr/\Hid (wr.ownsRow w.heap.size 9 1 (.slice (some ⟨g,0,none⟩) ar ar) ar ((za1 ns [x,y,z] ar m).map Value.string))) (fun i _=>3 - (intOf i).toNat)
 case atStart=>exact⟨0,by omega,rfl,hB1,HR0⟩
 case round =>
  clear HR0 hB1
  obtain⟨m,hm,rfl,hbk,HR⟩:=hrel
  have hgl:g < wr.heap.size:=zdq HR.out rfl
  have hfz:=zbt HR.out
  have hrl:rb < wr.heap.size:=ual hlt hbk.size
  by_cases hm3:m < 3
  ·have HN:Hid (∀ v:Nat,Calls Tryz.prog 128 #[.pointer (some ⟨rb,1,none⟩),.int .i64 (v:Nat)] wr fun e w'=>e=.returned (.string (ns.getD v ByteArray.empty))/\w'=wr):=fun v=>z5m wr rb 1 ns v (HC.out.below hbk)
   by_cases ha:m < ar
   ·obtain⟨sx,hsx⟩:∃ sx,wr.cell? ⟨g,m,none⟩=some sx:=by
     obtain⟨g',cap',hv',_,_,hcl'⟩:=zal HR.out (by omega)
     simp only[Value.slice.injEq,uab,Addr.mk.injEq,and_true] at hv'
     have e:=hv'.1
     subst e
     exact⟨_,hcl' m _ (uac (by simp[za1];omega))⟩
    have hset:=zb4 HR.out m (by simp[za1];omega) (.string (ns.getD ([x,y,z].getD m 0) ByteArray.empty))
    rw[← ucj,z0o] at hset
    have hai:(m:Int) < (ar:Int):=by omega
    have hbs:Below w.heap.size w (wr.setCell ⟨g,m,none⟩ (.string (ns.getD ([x,y,z].getD m 0) ByteArray.empty))):=hbk.setCell (by simp;omega) _
    have HSET:Hid (_/\_):=And.intro hset hbs
    clear hset hbs
    have hc:m=0∨m=1∨m=2:=by omega
    rcases hc with rfl|rfl|rfl
    all_goals (
     go_wp2_with (first|(go_at_call 128;refine(HN.out _).mono ?_;rintro e w' ⟨rfl,hww⟩;obtain rfl:=hww.symm)))
    ·exact⟨⟨1,by omega,rfl,by simpa [List.getD] using HSET.out.2,by have q:=HSET.out.1;simpa [Hid,List.getD] using q⟩,by simp[intOf]⟩
    ·exact⟨⟨2,by omega,rfl,by simpa [List.getD] using HSET.out.2,by have q:=HSET.out.1;simpa [Hid,List.getD] using q⟩,by simp[intOf]⟩
    ·exact⟨⟨3,by omega,rfl,by simpa [List.getD] using HSET.out.2,by have q:=HSET.out.1;simpa [Hid,List.getD] using q⟩,by simp[intOf]⟩
   ·have HRO:Hid (wr.ownsRow w.heap.size 9 1 (.slice (some ⟨g,0,none⟩) ar ar) ar ((za1 ns [x,y,z] ar (m+1)).map Value.string)):=by
     rw[zw3 ns [x,y,z] ar m (by omega)]
     exact HR
    have hai:¬ (m:Int) < (ar:Int):=by omega
    have hc:m=0∨m=1∨m=2:=by omega
    clear HR
    rcases hc with rfl|rfl|rfl
    all_goals go_wp2
    ·exact⟨⟨1,by omega,rfl,hbk,HRO⟩,by simp[intOf]⟩
    ·exact⟨⟨2,by omega,rfl,hbk,HRO⟩,by simp[intOf]⟩
    ·exact⟨⟨3,by omega,rfl,hbk,HRO⟩,by simp[intOf]⟩
  ·obtain rfl:m=3:=by omega
   go_wp2
   go_ret
   have q:=HR.out
   exact⟨g,by omega,rfl,by unfold SIn;rw[zdo];exact q,hbk⟩
def zr2(ns:List ByteArray):List ByteArray->Nat->zao->Option zao
 |[],_,r=>some r
 |t::ts,i,r=>match zco ns t with
  |none=>none
  |some v=>if i ≥ 3 then none else zr2 ns ts (i+1) (r.set i v)
def z9u:Option zao->Value
 |none=>.tuple #[.agg #[.int .i64 0,.int .i64 0,.int .i64 0],.bool false]
 |some r=>.tuple #[.agg #[.int .i64 (r.getD 0 0:Nat),.int .i64 (r.getD 1 0:Nat),.int .i64 (r.getD 2 0:Nat)],.bool true]
theorem z6u{lo2:Nat}(w:World)(rb:Nat)(ns ts:List ByteArray)(tv:Value)(h:CAt lo w rb 1 ns)(hn:ns.length<=1000)(ht:SIn lo2 w tv ts)(hl:ts.length<=1000000) :
  Calls Tryz.prog 82 #[.pointer (some ⟨rb,0,none⟩),tv] w fun e w'=>e=.returned (z9u (zr2 ns ts 0 [0,0,0]))/\Below w.heap.size w w':=by
 have HC:Hid (CAt lo w rb 1 ns):=h
 have HT:Hid (SIn lo2 w tv ts):=ht
 obtain⟨ao,cap,rfl⟩:=ht.shape
 have hlt:=h.1
 have HV:Hid (∀ W x,Below w.heap.size w W->Calls Tryz.prog 129 #[.pointer (some ⟨rb,1,none⟩),.string x] W fun e w'=>e=.returned (.tuple #[.int .i64 (((zco ns x).getD 0:Nat):Int),.bool (zco ns x).isSome])/\Below W.heap.size W w'):=fun W x hb=>(z1u W rb 1 ns x (HC.out.below hb) hn).mono (by
  rintro e w' ⟨rfl,m,rfl⟩
  exact⟨rfl,zau (Below.refl _ _) m⟩)
 obtain⟨res,hres⟩:∃ res,res=zr2 ns ts 0 [0,0,0]:=⟨_,rfl⟩
 rw[← hres]
 have HF0:Hid (zr2 ns (ts.drop 0) 0 [0,0,0]=res):=hres.symm
 clear h ht hres
 go_enter Tryz.func82,Tryz.ntmps82
 go_upto_region 3 with fail
 have hB1:Below w.heap.size w ((w.alloc (.cells #[.int .i64 0,.int .i64 0,.int .i64 0] 165)).alloc (.cells #[.int .i64 0,.int .i64 0,.int .i64 0] 165)):=(by go_grown)
 have hb4:=(Box.new w #[.int .i64 0,.int .i64 0,.int .i64 0] 165).up (.cells #[.int .i64 0,.int .i64 0,.int .i64 0] 165)
 have hb6:=(Box.new (w.alloc (.cells #[.int .i64 0,.int .i64 0,.int .i64 0] 165)) #[.int .i64 0,.int .i64 0,.int .i64 0] 165).at' (b':=w.heap.size+1) (by simp)
 have HB4:Hid (Box _ w.heap.size #[.int .i64 0,.int .i64 0,.int .i64 0] 165):=hb4
 have HB6:Hid (Box _ (w.heap.size+1) #[.int .i64 ((0:Nat):Int),.int .i64 ((0:Nat):Int),.int .i64 ((0:Nat):Int)] 165):=hb6
 clear hb4 hb6
 generalize (w.alloc (.cells #[.int .i64 0,.int .i64 0,.int .i64 0] 165)).alloc (.cells #[.int .i64 0,.int .i64 0,.int .i64 0] 165)=w1 at *
 generalize hg:w.heap.size+1=t6 at *
 have h46:w.heap.size < t6:=by omega
 clear hg
 go_loopw [13] (fun v13 wr=>∃ m:Nat,m<=ts.length/\v13=.int .i64 m/\∃ a b c:Nat,Below w.heap.size w wr/\Hid (Box wr w.heap.size #[.int .i64 0,.int .i64 0,.int .i64 0] 165)/\Hid (Box wr t6 #[.int .i64 (a:Nat),.int .i64 (b:Nat),.int .i64 (c:Nat)] 165)/\Hid (zr2 ns (ts.drop m) m [a,b,c]=res)) (fun i _=>ts.length - (intOf i).toNat)
 case atStart=>exact⟨0,by omega,rfl,0,0,0,hB1,HB4,HB6,HF0⟩
 case round =>
  clear HB4 HB6 HF0 hB1
  obtain⟨m,hm,rfl,a,b,c,hbk,HB4,HB6,HF⟩:=hrel
  have hrl:rb < wr.heap.size:=ual hlt hbk.size
  by_cases hmt:m < ts.length
  ·obtain⟨g,hao,hg,hcell⟩:=(HT.out.below hbk).cell m hmt
   subst hao
   have hf:=HF.out
   rw[uah hmt] at hf
   unfold zr2 at hf
   have hmi:(m:Int) < (ts.length:Int):=by omega
   generalize ts[m]=x at *
   have HVX:=HV.out wr x hbk
   cases hv:zco ns x with
   |none =>
    rw[hv] at hf HVX
    simp only[ubh,ua9] at HVX
    have HR:Hid (res=none):=hf.symm
    clear hf hv
    go_wp2_with (first|(go_at_call 129;refine HVX.mono ?_;rintro e w4 ⟨rfl,hb4'⟩;have hbx4:=HB4.out.below hb4';obtain⟨hc4,hf4⟩:=hbx4.rules;have hl4:=hbx4.lt;have hBF:=zae hbk hb4' (uaa _)))
    refine bodyPost_ret (v:=.tuple #[.agg #[.int .i64 0,.int .i64 0,.int .i64 0],.bool false]) (by simp[results,Tryz.results82,go_sem,hc4]) rfl ?_
    rw[HR.out]
    exact⟨rfl,((hBF.setCell (by simp) _).setCell (by simp) _).setCell (by simp) _⟩
   |some v =>
    rw[hv] at hf HVX
    simp only[uas,ua4] at HVX
    clear hv
    by_cases h3:m ≥ 3
    ·have HR:Hid (res=none):=show res=none by simpa [h3] using hf.symm
     have h3i:(3:Int)<=(m:Int):=by omega
     clear hf
     go_wp2_with (first|(go_at_call 129;refine HVX.mono ?_;rintro e w4 ⟨rfl,hb4'⟩;have hbx4:=HB4.out.below hb4';obtain⟨hc4,hf4⟩:=hbx4.rules;have hl4:=hbx4.lt;have hBF:=zae hbk hb4' (uaa _)))
     refine bodyPost_ret (v:=.tuple #[.agg #[.int .i64 0,.int .i64 0,.int .i64 0],.bool false]) (by simp[results,Tryz.results82,go_sem,hc4]) rfl ?_
     rw[HR.out]
     exact⟨rfl,((hBF.setCell (by simp) _).setCell (by simp) _).setCell (by simp) _⟩
    ·have HF2:Hid (zr2 ns (ts.drop (m+1)) (m+1) ([a,b,c].set m v)=res):=show zr2 ns (ts.drop (m+1)) (m+1) ([a,b,c].set m v)=res by simpa [h3] using hf
     clear hf HF
     have hc:m=0∨m=1∨m=2:=by omega
     rcases hc with rfl|rfl|rfl
     all_goals go_wp2_with (first|(go_at_call 129;refine HVX.mono ?_;rintro e w4 ⟨rfl,hb4'⟩;have hbx6:=HB6.out.below hb4';have HB44:Hid (Box w4 w.heap.size #[.int .i64 0,.int .i64 0,.int .i64 0] 165):=HB4.out.below hb4';have HB66:Hid (Box w4 t6 #[.int .i64 (a:Nat),.int .i64 (b:Nat),.int .i64 (c:Nat)] 165):=hbx6;obtain⟨hc6,hf6⟩:=hbx6.rules;have hl6:=hbx6.lt;have hBF:=zae hbk hb4' (uaa _);clear hbx6))
     ·exact⟨⟨1,by omega,rfl,v,b,c,hBF.setCell (by simp;omega) _,HB44.out.set_ne (by omega) _ _,by have q:=HB66.out.set 0 (.int .i64 (v:Nat));simpa [Hid] using q,HF2⟩,by simp[intOf];omega⟩
     ·exact⟨⟨2,by omega,rfl,a,v,c,hBF.setCell (by simp;omega) _,HB44.out.set_ne (by omega) _ _,by have q:=HB66.out.set 1 (.int .i64 (v:Nat));simpa [Hid] using q,HF2⟩,by simp[intOf];omega⟩
     ·exact⟨⟨3,by omega,rfl,a,b,v,hBF.setCell (by simp;omega) _,HB44.out.set_ne (by omega) _ _,by have q:=HB66.out.set 2 (.int .i64 (v:Nat));simpa [Hid] using q,HF2⟩,by simp[intOf];omega⟩
  ·obtain rfl:m=ts.length:=by omega
   have hf:=HF.out
   rw[List.drop_length,zr2] at hf
   have HR:Hid (res=some [a,b,c]):=hf.symm
   clear hf
   obtain⟨hc4,hf4⟩:=HB4.out.rules
   have hl4:=HB4.out.lt
   obtain⟨hc6,hf6⟩:=HB6.out.rules
   have hl6:=HB6.out.lt
   have h64:t6≠w.heap.size:=by omega
   go_wp2
   refine bodyPost_ret (v:=.tuple #[.agg #[.int .i64 (a:Nat),.int .i64 (b:Nat),.int .i64 (c:Nat)],.bool true]) (by simp[results,Tryz.results82,go_sem,hc4]) rfl ?_
   rw[HR.out]
   exact⟨rfl,((hbk.setCell (by simp) _).setCell (by simp) _).setCell (by simp) _⟩
end Go.Proofs.YteampbddflhngaaGreat
namespace Go.Proofs.YteampbddflhngaaGreat
set_option maxRecDepth 100000
set_option maxHeartbeats 4000000
open Go.RowKit
variable {lo lp:Nat}
variable {ns:List ByteArray}{tbs:List Nat}
structure zva (lo lp:Nat) (w:World) (rb:Nat) (t:List zar) (ns:List ByteArray) (R:zbg) (pv nv rv:Value) (tbs:List Nat):Prop where
 low:lo<=rb
 box:Box w rb #[pv,nv,rv,.int .i64 (R.count:Nat),.int .i64 (R.qw:Nat),.int .i64 R.jf] 156
 preds:w.ownsRow lp 221 3 pv t.length (zcb t)
 vals:SIn lo w nv ns
 rows:w.ownsRow lo 162 1 rv R.rows.length (pts tbs)
 tlen:tbs.length=R.rows.length
 tries:∀ p (_:p < R.rows.length) (_:p < tbs.length),∃ fp,zat lo w tbs[p] R.rows[p] fp
 few:t.length<=1000/\ns.length<=1000/\R.rows.length<=1000
theorem zva.below{w w':World}{rb:Nat}{t:List zar}{ns:List ByteArray}{R:zbg}{pv nv rv:Value}{tbs:List Nat}(h:zva lo lp w rb t ns R pv nv rv tbs)(hb:Below w.heap.size w w'):zva lo lp w' rb t ns R pv nv rv tbs :=
 ⟨h.low,h.box.below hb,zaa h.preds hb,h.vals.below hb,zaa h.rows hb,h.tlen,fun p a b=>by obtain⟨fp,q⟩:=h.tries p a b;exact⟨fp,q.below hb⟩,h.few⟩
theorem zva.tg{w:World}{rb:Nat}{t:List zar}{R:zbg}{pv nv rv:Value}(h:zva lo lp w rb t ns R pv nv rv tbs):TG lp w rb 0 t:=⟨pv,h.box.lt,h.box.rules.1 0,h.preds⟩
theorem zva.cat{w:World}{rb:Nat}{t:List zar}{R:zbg}{pv nv rv:Value}(h:zva lo lp w rb t ns R pv nv rv tbs):CAt lo w rb 1 ns:=⟨h.box.lt,nv,h.box.rules.1 1,h.vals⟩
def zu7(t:List zar)(ns:List ByteArray)(R:zbg)(pred:ByteArray)(row:List ByteArray):Nat × Nat :=
 if (zbh t pred).isSome=false∨zbd t pred ≥ R.rows.length then(0,11)
 else if row.length≠za0 t (zbd t pred) then(0,12)
 else match zr2 ns row 0 [0,0,0] with
  |none=>(0,12)
  |some r=>match zdt (R.rows.getD (zbd t pred) zad.zero) r with
   |none=>(0,12)
   |some k=>(k,0)
theorem zyb(ns:List ByteArray):∀(ts:List ByteArray) (i:Nat) (r r':zao),zr2 ns ts i r=some r'->r'.length=r.length
 |[],i,r,r',h=>by simp[zr2] at h;rw[h]
 |t::ts,i,r,r',h=>by
  unfold zr2 at h
  split at h
  ·cases h
  ·split at h
   ·cases h
   ·have:=zyb ns ts (i+1) _ r' h
    simpa using this
theorem zni(w:World):Below w.heap.size w w:=Below.refl _ _
theorem z7i{lo2:Nat}(w:World)(rb:Nat)(t:List zar)(ns:List ByteArray)(R:zbg)(pv nv rv:Value)(tbs:List Nat)(pred:ByteArray)(row:List ByteArray)(tv:Value)(h:zva lo lp w rb t ns R pv nv rv tbs)(ht:SIn lo2 w tv row)(hl:row.length<=1000000) :
  Calls Tryz.prog 43 #[.pointer (some ⟨rb,0,none⟩),.string pred,tv] w fun e w'=>e=.returned (.tuple #[.int .i64 ((zu7 t ns R pred row).1:Nat),.int .i64 ((zu7 t ns R pred row).2:Nat)])/\Below w.heap.size w w':=by
 have HFI:Hid (Calls Tryz.prog 77 #[.pointer (some ⟨rb,0,none⟩),.string pred] w fun e w'=>e=.returned (.tuple #[.int .i64 (zbd t pred:Nat),.bool (zbh t pred).isSome])/\w'=w):=zn8 lp w rb 0 t pred h.tg h.few.1
 have HAR:Hid (Calls Tryz.prog 80 #[.pointer (some ⟨rb,0,none⟩),.int .i64 (zbd t pred:Nat)] w fun e w'=>e=.returned (.int .i64 (za0 t (zbd t pred):Nat))/\w'=w):=zl7 lp w rb 0 t _ h.tg
 have HRW:Hid (Calls Tryz.prog 82 #[.pointer (some ⟨rb,0,none⟩),tv] w fun e w'=>e=.returned (z9u (zr2 ns row 0 [0,0,0]))/\Below w.heap.size w w'):=z6u w rb ns row tv h.cat h.few.2.1 ht hl
 have HRE:Hid (zva lo lp w rb t ns R pv nv rv tbs):=h
 obtain⟨ans,hans⟩:∃ a,a=zu7 t ns R pred row:=⟨_,rfl⟩
 rw[← hans]
 have HWN:Hid (ans=zu7 t ns R pred row):=hans
 clear hans
 unfold zu7 at HWN
 obtain⟨hc,hf⟩:=h.box.rules
 have hlt:=h.box.lt
 obtain⟨aor,capr,hrv⟩:=zac h.rows
 subst hrv
 obtain⟨aot,capt,htv⟩:=ht.shape
 subst htv
 have d2:=hc 2
 have hfew:=h.few.2.2
 clear h ht hc
 by_cases hs:(zbh t pred).isSome=false
 ·rw[if_pos (Or.inl hs)] at HWN
  rw[hs] at HFI
  clear hs
  generalize zbd t pred=fi at *
  go_enter Tryz.func43,Tryz.ntmps43
  go_wp2_with (first|(go_at_call 77;refine HFI.out.mono ?_;rintro e w1 ⟨rfl,hww⟩;obtain rfl:=hww.symm))
  go_ret2
  exact⟨by rw[HWN.out];rfl,zni w⟩
 ·have hs':(zbh t pred).isSome=true:=by cases hq:(zbh t pred).isSome with|true=>rfl|false=>exact absurd hq hs
  rw[hs'] at HFI
  by_cases hge:zbd t pred ≥ R.rows.length
  ·rw[if_pos (Or.inr hge)] at HWN
   have hgi:(R.rows.length:Int)<=(zbd t pred:Int):=by omega
   clear hs hs'
   generalize zbd t pred=fi at *
   go_enter Tryz.func43,Tryz.ntmps43
   go_wp2_with (first|(go_at_call 77;refine HFI.out.mono ?_;rintro e w1 ⟨rfl,hww⟩;obtain rfl:=hww.symm))
   go_ret2
   exact⟨by rw[HWN.out];rfl,zni w⟩
  ·rw[if_neg (by rintro(q|q);exact hs q;exact hge q)] at HWN
   have hgi:¬ (R.rows.length:Int)<=(zbd t pred:Int):=by omega
   clear hs hs'
   generalize zbd t pred=fi at *
   by_cases hne:row.length≠za0 t fi
   ·rw[if_pos hne] at HWN
    have hni:¬ (row.length:Int)=(za0 t fi:Int):=by omega
    clear hne
    generalize za0 t fi=af at *
    go_enter Tryz.func43,Tryz.ntmps43
    go_wp2_with (first|(go_at_call 77;refine HFI.out.mono ?_;rintro e w1 ⟨rfl,hww⟩;obtain rfl:=hww.symm)|(go_at_call 80;refine HAR.out.mono ?_;rintro e w1 ⟨rfl,hww⟩;obtain rfl:=hww.symm))
    go_ret2
    exact⟨by rw[HWN.out];rfl,zni w⟩
   ·rw[if_neg hne] at HWN
    have hni:(row.length:Int)=(za0 t fi:Int):=by omega
    have HNI:Hid (row.length=za0 t fi):=show row.length=za0 t fi by omega
    rw[← HNI.out] at HAR
    clear hne hni
    cases hrf:zr2 ns row 0 [0,0,0] with
    |none =>
     rw[hrf] at HWN HRW
     simp only[z9u] at HRW
     clear hrf
     go_enter Tryz.func43,Tryz.ntmps43
     go_wp2_with (first|(go_at_call 77;refine HFI.out.mono ?_;rintro e w1 ⟨rfl,hww⟩;obtain rfl:=hww.symm)|(go_at_call 80;refine HAR.out.mono ?_;rintro e w1 ⟨rfl,hww⟩;obtain rfl:=hww.symm)|(go_at_call 82;refine HRW.out.mono ?_;rintro e w3 ⟨rfl,hb3⟩))
     go_ret2
     exact⟨by rw[HWN.out];rfl,zae hb3 (by go_grown) (uaa _)⟩
    |some r =>
     rw[hrf] at HWN HRW
     have hr3:=zyb ns row 0 _ r hrf
     obtain⟨x,y,z,rfl⟩:∃ x y z,r=[x,y,z]:=by
      match r,hr3 with
      |[x,y,z],_=>exact⟨x,y,z,rfl⟩
     simp only[z9u,List.getD_cons_zero,List.getD_cons_succ] at HRW
     have hfi:fi < R.rows.length:=by omega
     have hft:fi < tbs.length:=by rw[HRE.out.tlen];exact hfi
     obtain⟨gr,capr',hvr,_,hgr,hcr⟩:=zal HRE.out.rows (by omega)
     simp only[Value.slice.injEq] at hvr
     have hgg:=hvr.1
     clear hvr
     subst hgg
     have hcp:=hcr fi (.pointer (some ⟨tbs[fi],0,none⟩)) (by simp[pts,hft,pt])
     have HMK:Hid (∀ W0,Below w.heap.size w W0->Calls Tryz.prog 83 #[.pointer (some ⟨tbs[fi],0,none⟩),.agg #[.int .i64 (x:Nat),.int .i64 (y:Nat),.int .i64 (z:Nat)]] W0 fun e w'=>e=.returned (.tuple #[.int .i64 (((zdt R.rows[fi] [x,y,z]).getD 0:Nat):Int),.bool (zdt R.rows[fi] [x,y,z]).isSome])/\Below W0.heap.size W0 w'):=fun W0 hb=>by
      obtain⟨fp,q⟩:=HRE.out.tries fi hfi hft
      exact zuy W0 _ _ fp x y z (q.below hb)
     dsimp only at HWN
     rw[show R.rows.getD fi zad.zero=R.rows[fi] by simp[List.getD,hfi]] at HWN
     generalize zdt R.rows[fi] [x,y,z]=mk at *
     generalize tbs[fi]=tb at *
     have hfii:(fi:Int) < (R.rows.length:Int):=by omega
     clear hrf hr3 hcr
     go_enter Tryz.func43,Tryz.ntmps43
     go_upto_region 9 with (first|(go_at_call 77;refine HFI.out.mono ?_;rintro e w1 ⟨rfl,hww⟩;obtain rfl:=hww.symm)|(go_at_call 80;refine HAR.out.mono ?_;rintro e w1 ⟨rfl,hww⟩;obtain rfl:=hww.symm)|(go_at_call 82;refine HRW.out.mono ?_;rintro e w3 ⟨rfl,hb3⟩;have y2:=(hb3.cell (p:=⟨rb,2,none⟩) hlt).trans d2;have yp:=(hb3.cell (p:=⟨gr,fi,none⟩) hgr).trans hcp;have yl:rb < w3.heap.size:=ual hlt hb3.size;have yg:gr < w3.heap.size:=ual hgr hb3.size))
     have hg4:Below w3.heap.size w3 (w3.alloc (.cells #[.int .i64 (x:Nat),.int .i64 (y:Nat),.int .i64 (z:Nat)] 165)):=(by go_grown)
     have hb10:=Box.new w3 #[.int .i64 (x:Nat),.int .i64 (y:Nat),.int .i64 (z:Nat)] 165
     generalize w3.alloc (.cells #[.int .i64 (x:Nat),.int .i64 (y:Nat),.int .i64 (z:Nat)] 165)=W4 at *
     have u2:=(hg4.cell (p:=⟨rb,2,none⟩) yl).trans y2
     have up:=(hg4.cell (p:=⟨gr,fi,none⟩) yg).trans yp
     have v0:W4.cell? ⟨w3.heap.size,0,none⟩=some (.int .i64 (x:Nat)):=by rw[hb10.rules.1];rfl
     have v1:W4.cell? ⟨w3.heap.size,1,none⟩=some (.int .i64 (y:Nat)):=by rw[hb10.rules.1];rfl
     have v2:W4.cell? ⟨w3.heap.size,2,none⟩=some (.int .i64 (z:Nat)):=by rw[hb10.rules.1];rfl
     have hB4:Below w.heap.size w W4:=zae hb3 hg4 (uaa _)
     have hl1:rb < W4.heap.size:=ual yl hg4.size
     have hl2:gr < W4.heap.size:=ual yg hg4.size
     have hl3:w3.heap.size < W4.heap.size:=hb10.lt
     have HMK2:Hid (∀ W0,Below W4.heap.size W4 W0->Calls Tryz.prog 83 #[.pointer (some ⟨tb,0,none⟩),.agg #[.int .i64 (x:Nat),.int .i64 (y:Nat),.int .i64 (z:Nat)]] W0 fun e w'=>e=.returned (.tuple #[.int .i64 ((mk.getD 0:Nat):Int),.bool mk.isSome])/\Hid (Below w.heap.size w w')/\w'.cell? ⟨rb,2,none⟩=some (.slice (some ⟨gr,0,none⟩) R.rows.length capr)/\w'.cell? ⟨gr,fi,none⟩=some (.pointer (some ⟨tb,0,none⟩))/\w'.cell? ⟨w3.heap.size,0,none⟩=some (.int .i64 (x:Nat))/\w'.cell? ⟨w3.heap.size,1,none⟩=some (.int .i64 (y:Nat))/\w'.cell? ⟨w3.heap.size,2,none⟩=some (.int .i64 (z:Nat))):=fun W0 hb=>by
      refine(HMK.out W0 (zae hB4 hb (uaa _))).mono ?_
      rintro e w' ⟨rfl,hb2⟩
      have hq:=zae hb hb2 (uaa _)
      exact⟨rfl,zae hB4 hq (uaa _),(hq.cell hl1).trans u2,(hq.cell hl2).trans up,(hq.cell hl3).trans v0,(hq.cell hl3).trans v1,(hq.cell hl3).trans v2⟩
     clear hb10 hg4 y2 yp yl yg HMK
     cases mk with
     |none =>
      simp only[ubh,ua9] at HMK2
      go_region_held3 (fun w'=>w'.cell? ⟨rb,2,none⟩=some (.slice (some ⟨gr,0,none⟩) R.rows.length capr)/\w'.cell? ⟨gr,fi,none⟩=some (.pointer (some ⟨tb,0,none⟩))/\w'.cell? ⟨w3.heap.size,0,none⟩=some (.int .i64 (x:Nat))/\w'.cell? ⟨w3.heap.size,1,none⟩=some (.int .i64 (y:Nat))/\w'.cell? ⟨w3.heap.size,2,none⟩=some (.int .i64 (z:Nat))) (first|go_keep|(go_simp;done)) (first|(go_at_call 83;refine(HMK2.out _ (by exact(zau (Below.refl _ _) 1))).mono ?_;rintro e w5 ⟨rfl,HB5,a2,ap,a0,a1,a3⟩))
      go_wp2
      go_ret2
      exact⟨by rw[HWN.out];rfl,HB5.out⟩
     |some kk =>
      simp only[uas,ua4] at HMK2
      go_region_held3 (fun w'=>w'.cell? ⟨rb,2,none⟩=some (.slice (some ⟨gr,0,none⟩) R.rows.length capr)/\w'.cell? ⟨gr,fi,none⟩=some (.pointer (some ⟨tb,0,none⟩))/\w'.cell? ⟨w3.heap.size,0,none⟩=some (.int .i64 (x:Nat))/\w'.cell? ⟨w3.heap.size,1,none⟩=some (.int .i64 (y:Nat))/\w'.cell? ⟨w3.heap.size,2,none⟩=some (.int .i64 (z:Nat))) (first|go_keep|(go_simp;done)) (first|(go_at_call 83;refine(HMK2.out _ (by exact(zau (Below.refl _ _) 1))).mono ?_;rintro e w5 ⟨rfl,HB5,a2,ap,a0,a1,a3⟩))
      go_wp2
      go_ret2
      exact⟨by rw[HWN.out];rfl,HB5.out⟩
end Go.Proofs.YteampbddflhngaaGreat
