import Derived.Test.YteampbddflhngaaGreatW10
import Derived.Deep.LoopGhost

namespace Go.Proofs.YteampbddflhngaaGreat
set_option maxRecDepth 100000
set_option maxHeartbeats 8000000
open Go.RowKit
variable {lo:Nat}
theorem Tryz.infoRow:(Tryz.prog.info? 165).map (fun i=>(i.zero,i.size,i.bytes))=some (some (.agg #[.int .i64 0,.int .i64 0,.int .i64 0]),3,24):=by kernel_rfl
def zda(rs:List zao):List Value:=rs.flatMap (·.map ivN)
def RowsIn(lo:Nat)(w:World)(v:Value)(rs:List zao):Prop:=w.ownsRow lo 165 3 v rs.length (zda rs)/\∀ r∈rs,r.length=3
def za7(B:Nat)(w:World)(wk tb:Nat)(row:zao)(rows:List zao):Prop:=∃(x y z:Nat) (rv:Value),row=[x,y,z]/\B<=wk/\Box w wk #[.pointer (some ⟨tb,0,none⟩),.int .i64 x,.int .i64 y,.int .i64 z,rv] 223/\RowsIn B w rv rows
theorem znb{T:zad}{a f v:Nat}(h:zcn T a f=some v):v < T.qg:=by
 unfold zcn at h
 split at h
 ·simp only at h
  split at h
  ·cases h
  ·simp only[uab] at h;omega
 ·cases h
theorem zep(T:zad):∀(n a level f:Nat) (row:zao) (rows:List zao) (res:zao × List zao),zdh T n a level f row rows=some res->rows.length<=res.2.length
 |0,_,_,_,_,_,_,h=>by simp[zdh] at h
 |n+1,a,level,f,row,rows,res,h=>by
  unfold zdh at h
  split at h
  ·simp at h;subst h;simp
  ·rename_i v hv
   simp only at h
   split at h
   ·have:=zep T n _ _ _ _ _ _ h
    simp at this
    omega
   ·split at h
    ·exact zep T n _ _ _ _ _ _ h
    ·split at h
     ·cases h
     ·rename_i row2 rows2 h2
      have q1:=zep T n _ _ _ _ _ _ h2
      have q2:=zep T n _ _ _ _ _ _ h
      simp at q1
      omega
theorem z4m(w0:World)(tb:Nat)(T:zad)(fp:List Nat)(ht:zat lo w0 tb T fp)(wk n:Nat)(ih:(∀ m,m < n->∀(w:World) (a level:Nat) (row:zao) (rows:List zao) (res:zao × List zao),zdh T m a level 0 row rows=some res->level < 3->res.2.length<=1048576->Below w0.heap.size w0 w->za7 w0.heap.size w wk tb row rows->Calls Tryz.prog 127 #[.pointer (some ⟨wk,0,none⟩),.int .i64 a,.int .i64 level] w fun e w'=>e=.returned (.tuple #[])/\za7 w0.heap.size w' wk tb res.1 res.2/\Below w0.heap.size w0 w'))(w:World)(a:Nat)(row:zao)(rows:List zao)(res:zao × List zao)(hres:zdh T n a 0 0 row rows=some res)(hlen:res.2.length<=1048576)(hb0:Below w0.heap.size w0 w)(hrel0:za7 w0.heap.size w wk tb row rows) :
  Calls Tryz.prog 127 #[.pointer (some ⟨wk,0,none⟩),.int .i64 a,.int .i64 0] w fun e w'=>e=.returned (.tuple #[])/\za7 w0.heap.size w' wk tb res.1 res.2/\Below w0.heap.size w0 w':=by
 have HI:Hid (∀ m,m < n->∀(w:World) (a level:Nat) (row:zao) (rows:List zao) (res:zao × List zao),zdh T m a level 0 row rows=some res->level < 3->res.2.length<=1048576->Below w0.heap.size w0 w->za7 w0.heap.size w wk tb row rows->Calls Tryz.prog 127 #[.pointer (some ⟨wk,0,none⟩),.int .i64 a,.int .i64 level] w fun e w'=>e=.returned (.tuple #[])/\za7 w0.heap.size w' wk tb res.1 res.2/\Below w0.heap.size w0 w'):=ih
 clear ih
 have HL:Hid (∀ W f,Below w0.heap.size w0 W->Calls Tryz.prog 167 #[.pointer (some ⟨tb,0,none⟩),.int .i64 a,.int .i64 ((f:Nat):Int)] W fun e w'=>e=.returned (.tuple #[.int .i64 (((zcn T a f).getD 0:Nat):Int),.bool (zcn T a f).isSome])/\w'=W):=fun W f hW=>zlc W tb T fp a f (ht.below hW)
 have HD:Hid (∀ W v,Below w0.heap.size w0 W->Calls Tryz.prog 130 #[.pointer (some ⟨tb,0,none⟩),.int .i64 a,.int .i64 ((v:Nat):Int)] W fun e w'=>e=.returned (.tuple #[.int .i64 (((zax T a v).getD 0:Nat):Int),.bool (zax T a v).isSome])/\w'=W):=fun W v hW=>zh2 W tb T fp a v (ht.below hW)
 have hdp:T.qp<=3:=by obtain⟨nv,ns,h1,_⟩:=ht;exact h1.deep
 have hwd:T.qg<=1000:=by obtain⟨nv,ns,h1,_⟩:=ht;exact h1.wide
 have hbox:∃ nv,Box w0 tb #[.int .i64 (T.qg:Nat),.int .i64 (T.qp:Nat),nv,.int .i64 (T.count:Nat)] 229:=by obtain⟨nv,ns,h1,_⟩:=ht;exact⟨nv,h1.box⟩
 obtain⟨nv,hbox⟩:=hbox
 clear ht
 have HR0:Hid (za7 w0.heap.size w wk tb row rows):=hrel0
 have HRES:Hid (zdh T n a 0 0 row rows=some res):=hres
 obtain⟨x,y,z,rv,hrw,hBk,hbk,hro,hrr⟩:=hrel0
 clear hrw hro hrr hres
 obtain⟨hkc,hkf⟩:=hbk.rules
 have hkl:=hbk.lt
 go_enter Tryz.func127,Tryz.ntmps127
 go_wp2_with (first|(go_at_call 167;refine(HL.out w 0 hb0).mono ?_;rintro e w' ⟨rfl,hww⟩;obtain rfl:=hww.symm;clear hww))
 clear hkc hkf hkl hbk
 go_loopg [6,7] n (fun k v6 v7 wr=>∃(f:Nat) (row':zao) (rows':List zao),v6=.int .i64 (((zcn T a f).getD 0:Nat):Int)/\v7=.bool (zcn T a f).isSome/\Hid (za7 w0.heap.size wr wk tb row' rows')/\Hid (zdh T k a 0 f row' rows'=some res)/\k<=n/\Below w0.heap.size w0 wr)
 case atStart=>exact⟨0,row,rows,rfl,rfl,HR0,HRES,uaa _,hb0⟩
 case round =>
  clear HR0 HRES hb0 hBk
  obtain⟨f,row',rows',rfl,rfl,HWR,HQ,hkn,hb1⟩:=hrel
  have hwr:=HWR.out
  obtain⟨x,y,z,rv,hrow',hBk,hbk,hown,hr3⟩:=hwr
  subst hrow'
  obtain⟨hkc,hkf⟩:=hbk.rules
  have hkl:=hbk.lt
  cases gk with
  |zero=>have:=HQ.out;simp[zdh] at this
  |succ m =>
   have H1:=HQ.out
   unfold zdh at H1
   cases hl:zcn T a f with
   |none =>
    rw[hl] at H1
    simp only[uab] at H1
    have HE:Hid (res=([x,y,z],rows')):=H1.symm
    clear H1 hl HQ
    simp only[ubh,ua9]
    go_wp2
    go_end0
    exact⟨rfl,by rw[HE.out];exact HWR.out,hb1⟩
   |some v =>
    rw[hl] at H1
    simp only at H1
    have hvw:v<=1000:=by have:=znb hl;omega
    clear hl HQ
    simp only[uas,ua4]
    have HLV:Hid (∀ W,Below w0.heap.size w0 W->Calls Tryz.prog 167 #[.pointer (some ⟨tb,0,none⟩),.int .i64 a,.int .i64 ((v:Int)+1)] W fun e w'=>e=.returned (.tuple #[.int .i64 (((zcn T a (v+1)).getD 0:Nat):Int),.bool (zcn T a (v+1)).isSome])/\w'=W):=fun W hW=>by
     have q:=HL.out W (v+1) hW
     rw[show((v+1:Nat):Int)=(v:Int)+1 from by omega] at q
     exact q
    have hset:=hbk.set 1 (.int .i64 (v:Nat))
    simp at hset
    have hbt:=hbox.below hb1
    obtain⟨hbc,hbf⟩:=hbt.rules
    have hbl:=hbt.lt
    have hne:wk≠tb:=(fun e=>by have:=hbox.lt;omega)
    by_cases hd:T.qp<=1
    ·rw[if_pos (by omega)] at H1
     have H2:Hid (zdh T m a 0 (v+1) [v,y,z] (rows'++[[v,y,z]])=some res):=H1
     have hmono:=zep T m _ _ _ _ _ _ H1
     simp at hmono
     clear H1 HI HD HL
     obtain⟨i0,hi,hz0,hzs,hzb⟩:=info_parts Tryz.infoRow
     obtain⟨ao,cap,rfl⟩:=zac hown
     have hown2:(wr.setCell ⟨wk,1,none⟩ (.int .i64 (v:Nat))).ownsRow w0.heap.size 165 3 (.slice ao rows'.length cap) rows'.length (zda rows'):=zb9 hown ((But.refl wk wr).setCell 1 _) hbk (by decide)
     have hb2:Below w0.heap.size w0 (wr.setCell ⟨wk,1,none⟩ (.int .i64 (v:Nat))):=hb1.setCell (p:=⟨wk,1,none⟩) hBk _
     have hzr:=hb2.size
     go_wp2
     clear hkc hkf hbk hown hbc hbf hbl hbt HWR hkl
     generalize wr.setCell ⟨wk,1,none⟩ (.int .i64 (v:Nat))=wS at *
     obtain⟨hkc,hkf⟩:=hset.rules
     have hklS:=hset.lt
     go_region_law (first|(refine zfz wS _ [.int .i64 (v:Nat),.int .i64 (y:Nat),.int .i64 (z:Nat)] 165 rfl (.tmp 42) (.tmp 47) 161 rfl w0.heap.size 165 i0 _ 3 24 Tryz.underlying161 hi hz0 hzs hzb rfl (by decide) (.slice ao rows'.length cap) rows'.length (zda rows') (by simp[Act.eval]) hown2 (by exact(by go_grown)) wS.heap.size 1 (by simp[Act.eval]) (by exact Box.drew (Box.new _ _ _)) rfl (by simp[Value.oneCell']) (by omega) (by omega) (by omega) ?_;intro v' w2 ho3 hS2 hat2 hk2 hz2';obtain⟨ao4,cap4,rfl⟩:=zac ho3;have hb2':=hset.save hS2 (zdu hown2 hset (by decide));obtain⟨hc2,hf2⟩:=hb2'.rules;have hl2:=hb2'.lt))
     all_goals
      have hrows:RowsIn w0.heap.size (w2.setCell ⟨wk,4,none⟩ (.slice ao4 (rows'.length+1) cap4)) (.slice ao4 (rows'.length+1) cap4) (rows'++[[v,y,z]]):=by
       refine⟨?_,fun r hr=>?_⟩
       ·have:=zb9 ho3 ((But.refl wk w2).setCell 4 (.slice ao4 (rows'.length+1) cap4)) hb2' (by decide)
        simpa [zda,ivN] using this
       ·rcases uao.1 hr with q|q
        ·exact hr3 r q
        ·simp at q;rw[q];rfl
      have hbx3:=hb2'.set 4 (.slice ao4 (rows'.length+1) cap4)
      simp at hbx3
      have hb4:Below w0.heap.size w0 (w2.setCell ⟨wk,4,none⟩ (.slice ao4 (rows'.length+1) cap4)):=(hb2.trans (hS2.below (fun x hx=>zeg hown2 (zcy hx)) hzr)).setCell (p:=⟨wk,4,none⟩) hBk _
      have HWR3:Hid (za7 w0.heap.size (w2.setCell ⟨wk,4,none⟩ (.slice ao4 (rows'.length+1) cap4)) wk tb [v,y,z] (rows'++[[v,y,z]])):=⟨_,_,_,_,rfl,hBk,hbx3,hrows⟩
      go_wp2_with (first|(go_at_call 167;refine(HLV.out _ (by exact hb4)).mono ?_;rintro e w' ⟨rfl,hww⟩;obtain rfl:=hww.symm))
      go_roundg m
      case measure=>omega
      case rel=>exact⟨v+1,_,_,rfl,rfl,HWR3,H2,by omega,hb4⟩
    ·have H2:=H1
     rw[if_neg (by omega),if_neg (by omega)] at H2
     have hb2:Below w0.heap.size w0 (wr.setCell ⟨wk,1,none⟩ (.int .i64 (v:Nat))):=hb1.setCell (p:=⟨wk,1,none⟩) hBk _
     have hwr2:za7 w0.heap.size (wr.setCell ⟨wk,1,none⟩ (.int .i64 (v:Nat))) wk tb [v,y,z] rows':=⟨_,_,_,rv,rfl,hBk,hset,zb9 hown ((But.refl wk wr).setCell 1 _) hbk (by decide),hr3⟩
     cases hin:zdh T m ((zax T a v).getD 0) 1 0 [v,y,z] rows' with
     |none=>rw[show [x,y,z].set 0 v=[v,y,z] from rfl] at H2;rw[hin] at H2;cases H2
     |some rr =>
      rw[show [x,y,z].set 0 v=[v,y,z] from rfl] at H2
      rw[hin] at H2
      have H3:zdh T m a 0 (v+1) rr.1 rr.2=some res:=H2
      have HW:Hid (Calls Tryz.prog 127 #[.pointer (some ⟨wk,0,none⟩),.int .i64 (((zax T a v).getD 0:Nat):Int),.int .i64 1] (wr.setCell ⟨wk,1,none⟩ (.int .i64 (v:Nat))) fun e w'=>e=.returned (.tuple #[])/\za7 w0.heap.size w' wk tb rr.1 rr.2/\Below w0.heap.size w0 w'):=by
       have q:=HI.out m (by omega) _ _ _ _ _ rr hin (by omega) (by have:=zep T m _ _ _ _ _ _ H3;omega) hb2 hwr2
       rw[show((1:Nat):Int)=1 from rfl] at q
       exact q
      have H4:Hid (zdh T m a 0 (v+1) rr.1 rr.2=some res):=H3
      clear H1 H2 H3 hin
      have HDD:Hid (Calls Tryz.prog 130 #[.pointer (some ⟨tb,0,none⟩),.int .i64 a,.int .i64 ((v:Nat):Int)] (wr.setCell ⟨wk,1,none⟩ (.int .i64 (v:Nat))) fun e w'=>e=.returned (.tuple #[.int .i64 (((zax T a v).getD 0:Nat):Int),.bool (zax T a v).isSome])/\w'=wr.setCell ⟨wk,1,none⟩ (.int .i64 (v:Nat))):=HD.out _ v hb2
      generalize (zax T a v).getD 0=dn at *
      generalize (zax T a v).isSome=ds at *
      clear HD HI HL
      go_wp2_with (first|(go_at_call 130;refine HDD.out.mono ?_;rintro e w' ⟨rfl,hww⟩;obtain rfl:=hww.symm)|(go_at_call 127;refine HW.out.mono ?_;rintro e w3 ⟨rfl,hwr3,hb3⟩;have HWR3:Hid (za7 w0.heap.size w3 wk tb rr.1 rr.2):=hwr3;obtain⟨x3,y3,z3,rv3,_,_,hbk3,_,_⟩:=hwr3;obtain⟨hkc3,hkf3⟩:=hbk3.rules;have hkl3:=hbk3.lt)|(go_at_call 167;refine(HLV.out _ hb3).mono ?_;rintro e w' ⟨rfl,hww⟩;obtain rfl:=hww.symm))
      go_roundg m
      case measure=>omega
      case rel=>exact⟨v+1,rr.1,rr.2,rfl,rfl,HWR3,H4,by omega,hb3⟩
theorem z4n(w0:World)(tb:Nat)(T:zad)(fp:List Nat)(ht:zat lo w0 tb T fp)(wk n:Nat)(ih:(∀ m,m < n->∀(w:World) (a level:Nat) (row:zao) (rows:List zao) (res:zao × List zao),zdh T m a level 0 row rows=some res->level < 3->res.2.length<=1048576->Below w0.heap.size w0 w->za7 w0.heap.size w wk tb row rows->Calls Tryz.prog 127 #[.pointer (some ⟨wk,0,none⟩),.int .i64 a,.int .i64 level] w fun e w'=>e=.returned (.tuple #[])/\za7 w0.heap.size w' wk tb res.1 res.2/\Below w0.heap.size w0 w'))(w:World)(a:Nat)(row:zao)(rows:List zao)(res:zao × List zao)(hres:zdh T n a 1 0 row rows=some res)(hlen:res.2.length<=1048576)(hb0:Below w0.heap.size w0 w)(hrel0:za7 w0.heap.size w wk tb row rows) :
  Calls Tryz.prog 127 #[.pointer (some ⟨wk,0,none⟩),.int .i64 a,.int .i64 1] w fun e w'=>e=.returned (.tuple #[])/\za7 w0.heap.size w' wk tb res.1 res.2/\Below w0.heap.size w0 w':=by
 have HI:Hid (∀ m,m < n->∀(w:World) (a level:Nat) (row:zao) (rows:List zao) (res:zao × List zao),zdh T m a level 0 row rows=some res->level < 3->res.2.length<=1048576->Below w0.heap.size w0 w->za7 w0.heap.size w wk tb row rows->Calls Tryz.prog 127 #[.pointer (some ⟨wk,0,none⟩),.int .i64 a,.int .i64 level] w fun e w'=>e=.returned (.tuple #[])/\za7 w0.heap.size w' wk tb res.1 res.2/\Below w0.heap.size w0 w'):=ih
 clear ih
 have HL:Hid (∀ W f,Below w0.heap.size w0 W->Calls Tryz.prog 167 #[.pointer (some ⟨tb,0,none⟩),.int .i64 a,.int .i64 ((f:Nat):Int)] W fun e w'=>e=.returned (.tuple #[.int .i64 (((zcn T a f).getD 0:Nat):Int),.bool (zcn T a f).isSome])/\w'=W):=fun W f hW=>zlc W tb T fp a f (ht.below hW)
 have HD:Hid (∀ W v,Below w0.heap.size w0 W->Calls Tryz.prog 130 #[.pointer (some ⟨tb,0,none⟩),.int .i64 a,.int .i64 ((v:Nat):Int)] W fun e w'=>e=.returned (.tuple #[.int .i64 (((zax T a v).getD 0:Nat):Int),.bool (zax T a v).isSome])/\w'=W):=fun W v hW=>zh2 W tb T fp a v (ht.below hW)
 have hdp:T.qp<=3:=by obtain⟨nv,ns,h1,_⟩:=ht;exact h1.deep
 have hwd:T.qg<=1000:=by obtain⟨nv,ns,h1,_⟩:=ht;exact h1.wide
 have hbox:∃ nv,Box w0 tb #[.int .i64 (T.qg:Nat),.int .i64 (T.qp:Nat),nv,.int .i64 (T.count:Nat)] 229:=by obtain⟨nv,ns,h1,_⟩:=ht;exact⟨nv,h1.box⟩
 obtain⟨nv,hbox⟩:=hbox
 clear ht
 have HR0:Hid (za7 w0.heap.size w wk tb row rows):=hrel0
 have HRES:Hid (zdh T n a 1 0 row rows=some res):=hres
 obtain⟨x,y,z,rv,hrw,hBk,hbk,hro,hrr⟩:=hrel0
 clear hrw hro hrr hres
 obtain⟨hkc,hkf⟩:=hbk.rules
 have hkl:=hbk.lt
 go_enter Tryz.func127,Tryz.ntmps127
 go_wp2_with (first|(go_at_call 167;refine(HL.out w 0 hb0).mono ?_;rintro e w' ⟨rfl,hww⟩;obtain rfl:=hww.symm;clear hww))
 clear hkc hkf hkl hbk
 go_loopg [6,7] n (fun k v6 v7 wr=>∃(f:Nat) (row':zao) (rows':List zao),v6=.int .i64 (((zcn T a f).getD 0:Nat):Int)/\v7=.bool (zcn T a f).isSome/\Hid (za7 w0.heap.size wr wk tb row' rows')/\Hid (zdh T k a 1 f row' rows'=some res)/\k<=n/\Below w0.heap.size w0 wr)
 case atStart=>exact⟨0,row,rows,rfl,rfl,HR0,HRES,uaa _,hb0⟩
 case round =>
  clear HR0 HRES hb0 hBk
  obtain⟨f,row',rows',rfl,rfl,HWR,HQ,hkn,hb1⟩:=hrel
  have hwr:=HWR.out
  obtain⟨x,y,z,rv,hrow',hBk,hbk,hown,hr3⟩:=hwr
  subst hrow'
  obtain⟨hkc,hkf⟩:=hbk.rules
  have hkl:=hbk.lt
  cases gk with
  |zero=>have:=HQ.out;simp[zdh] at this
  |succ m =>
   have H1:=HQ.out
   unfold zdh at H1
   cases hl:zcn T a f with
   |none =>
    rw[hl] at H1
    simp only[uab] at H1
    have HE:Hid (res=([x,y,z],rows')):=H1.symm
    clear H1 hl HQ
    simp only[ubh,ua9]
    go_wp2
    go_end0
    exact⟨rfl,by rw[HE.out];exact HWR.out,hb1⟩
   |some v =>
    rw[hl] at H1
    simp only at H1
    have hvw:v<=1000:=by have:=znb hl;omega
    clear hl HQ
    simp only[uas,ua4]
    have HLV:Hid (∀ W,Below w0.heap.size w0 W->Calls Tryz.prog 167 #[.pointer (some ⟨tb,0,none⟩),.int .i64 a,.int .i64 ((v:Int)+1)] W fun e w'=>e=.returned (.tuple #[.int .i64 (((zcn T a (v+1)).getD 0:Nat):Int),.bool (zcn T a (v+1)).isSome])/\w'=W):=fun W hW=>by
     have q:=HL.out W (v+1) hW
     rw[show((v+1:Nat):Int)=(v:Int)+1 from by omega] at q
     exact q
    have hset:=hbk.set 2 (.int .i64 (v:Nat))
    simp at hset
    have hbt:=hbox.below hb1
    obtain⟨hbc,hbf⟩:=hbt.rules
    have hbl:=hbt.lt
    have hne:wk≠tb:=(fun e=>by have:=hbox.lt;omega)
    by_cases hd:T.qp<=2
    ·rw[if_pos (by omega)] at H1
     have H2:Hid (zdh T m a 1 (v+1) [x,v,z] (rows'++[[x,v,z]])=some res):=H1
     have hmono:=zep T m _ _ _ _ _ _ H1
     simp at hmono
     clear H1 HI HD HL
     obtain⟨i0,hi,hz0,hzs,hzb⟩:=info_parts Tryz.infoRow
     obtain⟨ao,cap,rfl⟩:=zac hown
     have hown2:(wr.setCell ⟨wk,2,none⟩ (.int .i64 (v:Nat))).ownsRow w0.heap.size 165 3 (.slice ao rows'.length cap) rows'.length (zda rows'):=zb9 hown ((But.refl wk wr).setCell 2 _) hbk (by decide)
     have hb2:Below w0.heap.size w0 (wr.setCell ⟨wk,2,none⟩ (.int .i64 (v:Nat))):=hb1.setCell (p:=⟨wk,2,none⟩) hBk _
     have hzr:=hb2.size
     go_wp2
     clear hkc hkf hbk hown hbc hbf hbl hbt HWR hkl
     generalize wr.setCell ⟨wk,2,none⟩ (.int .i64 (v:Nat))=wS at *
     obtain⟨hkc,hkf⟩:=hset.rules
     have hklS:=hset.lt
     go_region_law (first|(refine zfz wS _ [.int .i64 (x:Nat),.int .i64 (v:Nat),.int .i64 (z:Nat)] 165 rfl (.tmp 42) (.tmp 47) 161 rfl w0.heap.size 165 i0 _ 3 24 Tryz.underlying161 hi hz0 hzs hzb rfl (by decide) (.slice ao rows'.length cap) rows'.length (zda rows') (by simp[Act.eval]) hown2 (by exact(by go_grown)) wS.heap.size 1 (by simp[Act.eval]) (by exact Box.drew (Box.new _ _ _)) rfl (by simp[Value.oneCell']) (by omega) (by omega) (by omega) ?_;intro v' w2 ho3 hS2 hat2 hk2 hz2';obtain⟨ao4,cap4,rfl⟩:=zac ho3;have hb2':=hset.save hS2 (zdu hown2 hset (by decide));obtain⟨hc2,hf2⟩:=hb2'.rules;have hl2:=hb2'.lt))
     all_goals
      have hrows:RowsIn w0.heap.size (w2.setCell ⟨wk,4,none⟩ (.slice ao4 (rows'.length+1) cap4)) (.slice ao4 (rows'.length+1) cap4) (rows'++[[x,v,z]]):=by
       refine⟨?_,fun r hr=>?_⟩
       ·have:=zb9 ho3 ((But.refl wk w2).setCell 4 (.slice ao4 (rows'.length+1) cap4)) hb2' (by decide)
        simpa [zda,ivN] using this
       ·rcases uao.1 hr with q|q
        ·exact hr3 r q
        ·simp at q;rw[q];rfl
      have hbx3:=hb2'.set 4 (.slice ao4 (rows'.length+1) cap4)
      simp at hbx3
      have hb4:Below w0.heap.size w0 (w2.setCell ⟨wk,4,none⟩ (.slice ao4 (rows'.length+1) cap4)):=(hb2.trans (hS2.below (fun x hx=>zeg hown2 (zcy hx)) hzr)).setCell (p:=⟨wk,4,none⟩) hBk _
      have HWR3:Hid (za7 w0.heap.size (w2.setCell ⟨wk,4,none⟩ (.slice ao4 (rows'.length+1) cap4)) wk tb [x,v,z] (rows'++[[x,v,z]])):=⟨_,_,_,_,rfl,hBk,hbx3,hrows⟩
      go_wp2_with (first|(go_at_call 167;refine(HLV.out _ (by exact hb4)).mono ?_;rintro e w' ⟨rfl,hww⟩;obtain rfl:=hww.symm))
      go_roundg m
      case measure=>omega
      case rel=>exact⟨v+1,_,_,rfl,rfl,HWR3,H2,by omega,hb4⟩
    ·have H2:=H1
     rw[if_neg (by omega),if_neg (by omega)] at H2
     have hb2:Below w0.heap.size w0 (wr.setCell ⟨wk,2,none⟩ (.int .i64 (v:Nat))):=hb1.setCell (p:=⟨wk,2,none⟩) hBk _
     have hwr2:za7 w0.heap.size (wr.setCell ⟨wk,2,none⟩ (.int .i64 (v:Nat))) wk tb [x,v,z] rows':=⟨_,_,_,rv,rfl,hBk,hset,zb9 hown ((But.refl wk wr).setCell 2 _) hbk (by decide),hr3⟩
     cases hin:zdh T m ((zax T a v).getD 0) 2 0 [x,v,z] rows' with
     |none=>rw[show [x,y,z].set 1 v=[x,v,z] from rfl] at H2;rw[hin] at H2;cases H2
     |some rr =>
      rw[show [x,y,z].set 1 v=[x,v,z] from rfl] at H2
      rw[hin] at H2
      have H3:zdh T m a 1 (v+1) rr.1 rr.2=some res:=H2
      have HW:Hid (Calls Tryz.prog 127 #[.pointer (some ⟨wk,0,none⟩),.int .i64 (((zax T a v).getD 0:Nat):Int),.int .i64 2] (wr.setCell ⟨wk,2,none⟩ (.int .i64 (v:Nat))) fun e w'=>e=.returned (.tuple #[])/\za7 w0.heap.size w' wk tb rr.1 rr.2/\Below w0.heap.size w0 w'):=by
       have q:=HI.out m (by omega) _ _ _ _ _ rr hin (by omega) (by have:=zep T m _ _ _ _ _ _ H3;omega) hb2 hwr2
       rw[show((2:Nat):Int)=2 from rfl] at q
       exact q
      have H4:Hid (zdh T m a 1 (v+1) rr.1 rr.2=some res):=H3
      clear H1 H2 H3 hin
      have HDD:Hid (Calls Tryz.prog 130 #[.pointer (some ⟨tb,0,none⟩),.int .i64 a,.int .i64 ((v:Nat):Int)] (wr.setCell ⟨wk,2,none⟩ (.int .i64 (v:Nat))) fun e w'=>e=.returned (.tuple #[.int .i64 (((zax T a v).getD 0:Nat):Int),.bool (zax T a v).isSome])/\w'=wr.setCell ⟨wk,2,none⟩ (.int .i64 (v:Nat))):=HD.out _ v hb2
      generalize (zax T a v).getD 0=dn at *
      generalize (zax T a v).isSome=ds at *
      clear HD HI HL
      go_wp2_with (first|(go_at_call 130;refine HDD.out.mono ?_;rintro e w' ⟨rfl,hww⟩;obtain rfl:=hww.symm)|(go_at_call 127;refine HW.out.mono ?_;rintro e w3 ⟨rfl,hwr3,hb3⟩;have HWR3:Hid (za7 w0.heap.size w3 wk tb rr.1 rr.2):=hwr3;obtain⟨x3,y3,z3,rv3,_,_,hbk3,_,_⟩:=hwr3;obtain⟨hkc3,hkf3⟩:=hbk3.rules;have hkl3:=hbk3.lt)|(go_at_call 167;refine(HLV.out _ hb3).mono ?_;rintro e w' ⟨rfl,hww⟩;obtain rfl:=hww.symm))
      go_roundg m
      case measure=>omega
      case rel=>exact⟨v+1,rr.1,rr.2,rfl,rfl,HWR3,H4,by omega,hb3⟩
theorem z4o(w0:World)(tb:Nat)(T:zad)(fp:List Nat)(ht:zat lo w0 tb T fp)(wk n:Nat)(ih:(∀ m,m < n->∀(w:World) (a level:Nat) (row:zao) (rows:List zao) (res:zao × List zao),zdh T m a level 0 row rows=some res->level < 3->res.2.length<=1048576->Below w0.heap.size w0 w->za7 w0.heap.size w wk tb row rows->Calls Tryz.prog 127 #[.pointer (some ⟨wk,0,none⟩),.int .i64 a,.int .i64 level] w fun e w'=>e=.returned (.tuple #[])/\za7 w0.heap.size w' wk tb res.1 res.2/\Below w0.heap.size w0 w'))(w:World)(a:Nat)(row:zao)(rows:List zao)(res:zao × List zao)(hres:zdh T n a 2 0 row rows=some res)(hlen:res.2.length<=1048576)(hb0:Below w0.heap.size w0 w)(hrel0:za7 w0.heap.size w wk tb row rows) :
  Calls Tryz.prog 127 #[.pointer (some ⟨wk,0,none⟩),.int .i64 a,.int .i64 2] w fun e w'=>e=.returned (.tuple #[])/\za7 w0.heap.size w' wk tb res.1 res.2/\Below w0.heap.size w0 w':=by
 have HI:Hid (∀ m,m < n->∀(w:World) (a level:Nat) (row:zao) (rows:List zao) (res:zao × List zao),zdh T m a level 0 row rows=some res->level < 3->res.2.length<=1048576->Below w0.heap.size w0 w->za7 w0.heap.size w wk tb row rows->Calls Tryz.prog 127 #[.pointer (some ⟨wk,0,none⟩),.int .i64 a,.int .i64 level] w fun e w'=>e=.returned (.tuple #[])/\za7 w0.heap.size w' wk tb res.1 res.2/\Below w0.heap.size w0 w'):=ih
 clear ih
 have HL:Hid (∀ W f,Below w0.heap.size w0 W->Calls Tryz.prog 167 #[.pointer (some ⟨tb,0,none⟩),.int .i64 a,.int .i64 ((f:Nat):Int)] W fun e w'=>e=.returned (.tuple #[.int .i64 (((zcn T a f).getD 0:Nat):Int),.bool (zcn T a f).isSome])/\w'=W):=fun W f hW=>zlc W tb T fp a f (ht.below hW)
 have HD:Hid (∀ W v,Below w0.heap.size w0 W->Calls Tryz.prog 130 #[.pointer (some ⟨tb,0,none⟩),.int .i64 a,.int .i64 ((v:Nat):Int)] W fun e w'=>e=.returned (.tuple #[.int .i64 (((zax T a v).getD 0:Nat):Int),.bool (zax T a v).isSome])/\w'=W):=fun W v hW=>zh2 W tb T fp a v (ht.below hW)
 have hdp:T.qp<=3:=by obtain⟨nv,ns,h1,_⟩:=ht;exact h1.deep
 have hwd:T.qg<=1000:=by obtain⟨nv,ns,h1,_⟩:=ht;exact h1.wide
 have hbox:∃ nv,Box w0 tb #[.int .i64 (T.qg:Nat),.int .i64 (T.qp:Nat),nv,.int .i64 (T.count:Nat)] 229:=by obtain⟨nv,ns,h1,_⟩:=ht;exact⟨nv,h1.box⟩
 obtain⟨nv,hbox⟩:=hbox
 clear ht
 have HR0:Hid (za7 w0.heap.size w wk tb row rows):=hrel0
 have HRES:Hid (zdh T n a 2 0 row rows=some res):=hres
 obtain⟨x,y,z,rv,hrw,hBk,hbk,hro,hrr⟩:=hrel0
 clear hrw hro hrr hres
 obtain⟨hkc,hkf⟩:=hbk.rules
 have hkl:=hbk.lt
 go_enter Tryz.func127,Tryz.ntmps127
 go_wp2_with (first|(go_at_call 167;refine(HL.out w 0 hb0).mono ?_;rintro e w' ⟨rfl,hww⟩;obtain rfl:=hww.symm;clear hww))
 clear hkc hkf hkl hbk
 go_loopg [6,7] n (fun k v6 v7 wr=>∃(f:Nat) (row':zao) (rows':List zao),v6=.int .i64 (((zcn T a f).getD 0:Nat):Int)/\v7=.bool (zcn T a f).isSome/\Hid (za7 w0.heap.size wr wk tb row' rows')/\Hid (zdh T k a 2 f row' rows'=some res)/\k<=n/\Below w0.heap.size w0 wr)
 case atStart=>exact⟨0,row,rows,rfl,rfl,HR0,HRES,uaa _,hb0⟩
 case round =>
  clear HR0 HRES hb0 hBk
  obtain⟨f,row',rows',rfl,rfl,HWR,HQ,hkn,hb1⟩:=hrel
  have hwr:=HWR.out
  obtain⟨x,y,z,rv,hrow',hBk,hbk,hown,hr3⟩:=hwr
  subst hrow'
  obtain⟨hkc,hkf⟩:=hbk.rules
  have hkl:=hbk.lt
  cases gk with
  |zero=>have:=HQ.out;simp[zdh] at this
  |succ m =>
   have H1:=HQ.out
   unfold zdh at H1
   cases hl:zcn T a f with
   |none =>
    rw[hl] at H1
    simp only[uab] at H1
    have HE:Hid (res=([x,y,z],rows')):=H1.symm
    clear H1 hl HQ
    simp only[ubh,ua9]
    go_wp2
    go_end0
    exact⟨rfl,by rw[HE.out];exact HWR.out,hb1⟩
   |some v =>
    rw[hl] at H1
    simp only at H1
    have hvw:v<=1000:=by have:=znb hl;omega
    clear hl HQ
    simp only[uas,ua4]
    have HLV:Hid (∀ W,Below w0.heap.size w0 W->Calls Tryz.prog 167 #[.pointer (some ⟨tb,0,none⟩),.int .i64 a,.int .i64 ((v:Int)+1)] W fun e w'=>e=.returned (.tuple #[.int .i64 (((zcn T a (v+1)).getD 0:Nat):Int),.bool (zcn T a (v+1)).isSome])/\w'=W):=fun W hW=>by
     have q:=HL.out W (v+1) hW
     rw[show((v+1:Nat):Int)=(v:Int)+1 from by omega] at q
     exact q
    have hset:=hbk.set 3 (.int .i64 (v:Nat))
    simp at hset
    have hbt:=hbox.below hb1
    obtain⟨hbc,hbf⟩:=hbt.rules
    have hbl:=hbt.lt
    have hne:wk≠tb:=(fun e=>by have:=hbox.lt;omega)
    by_cases hd:T.qp<=3
    ·rw[if_pos (by omega)] at H1
     have H2:Hid (zdh T m a 2 (v+1) [x,y,v] (rows'++[[x,y,v]])=some res):=H1
     have hmono:=zep T m _ _ _ _ _ _ H1
     simp at hmono
     clear H1 HI HD HL
     obtain⟨i0,hi,hz0,hzs,hzb⟩:=info_parts Tryz.infoRow
     obtain⟨ao,cap,rfl⟩:=zac hown
     have hown2:(wr.setCell ⟨wk,3,none⟩ (.int .i64 (v:Nat))).ownsRow w0.heap.size 165 3 (.slice ao rows'.length cap) rows'.length (zda rows'):=zb9 hown ((But.refl wk wr).setCell 3 _) hbk (by decide)
     have hb2:Below w0.heap.size w0 (wr.setCell ⟨wk,3,none⟩ (.int .i64 (v:Nat))):=hb1.setCell (p:=⟨wk,3,none⟩) hBk _
     have hzr:=hb2.size
     go_wp2
     clear hkc hkf hbk hown hbc hbf hbl hbt HWR hkl
     generalize wr.setCell ⟨wk,3,none⟩ (.int .i64 (v:Nat))=wS at *
     obtain⟨hkc,hkf⟩:=hset.rules
     have hklS:=hset.lt
     go_region_law (first|(refine zfz wS _ [.int .i64 (x:Nat),.int .i64 (y:Nat),.int .i64 (v:Nat)] 165 rfl (.tmp 42) (.tmp 47) 161 rfl w0.heap.size 165 i0 _ 3 24 Tryz.underlying161 hi hz0 hzs hzb rfl (by decide) (.slice ao rows'.length cap) rows'.length (zda rows') (by simp[Act.eval]) hown2 (by exact(by go_grown)) wS.heap.size 1 (by simp[Act.eval]) (by exact Box.drew (Box.new _ _ _)) rfl (by simp[Value.oneCell']) (by omega) (by omega) (by omega) ?_;intro v' w2 ho3 hS2 hat2 hk2 hz2';obtain⟨ao4,cap4,rfl⟩:=zac ho3;have hb2':=hset.save hS2 (zdu hown2 hset (by decide));obtain⟨hc2,hf2⟩:=hb2'.rules;have hl2:=hb2'.lt))
     all_goals
      have hrows:RowsIn w0.heap.size (w2.setCell ⟨wk,4,none⟩ (.slice ao4 (rows'.length+1) cap4)) (.slice ao4 (rows'.length+1) cap4) (rows'++[[x,y,v]]):=by
       refine⟨?_,fun r hr=>?_⟩
       ·have:=zb9 ho3 ((But.refl wk w2).setCell 4 (.slice ao4 (rows'.length+1) cap4)) hb2' (by decide)
        simpa [zda,ivN] using this
       ·rcases uao.1 hr with q|q
        ·exact hr3 r q
        ·simp at q;rw[q];rfl
      have hbx3:=hb2'.set 4 (.slice ao4 (rows'.length+1) cap4)
      simp at hbx3
      have hb4:Below w0.heap.size w0 (w2.setCell ⟨wk,4,none⟩ (.slice ao4 (rows'.length+1) cap4)):=(hb2.trans (hS2.below (fun x hx=>zeg hown2 (zcy hx)) hzr)).setCell (p:=⟨wk,4,none⟩) hBk _
      have HWR3:Hid (za7 w0.heap.size (w2.setCell ⟨wk,4,none⟩ (.slice ao4 (rows'.length+1) cap4)) wk tb [x,y,v] (rows'++[[x,y,v]])):=⟨_,_,_,_,rfl,hBk,hbx3,hrows⟩
      go_wp2_with (first|(go_at_call 167;refine(HLV.out _ (by exact hb4)).mono ?_;rintro e w' ⟨rfl,hww⟩;obtain rfl:=hww.symm))
      go_roundg m
      case measure=>omega
      case rel=>exact⟨v+1,_,_,rfl,rfl,HWR3,H2,by omega,hb4⟩
    ·exact absurd hdp (by omega)
theorem walk_any(w0:World)(tb:Nat)(T:zad)(fp:List Nat)(ht:zat lo w0 tb T fp)(wk:Nat):∀(n:Nat) (w:World) (a level:Nat) (row:zao) (rows:List zao) (res:zao × List zao),zdh T n a level 0 row rows=some res->level < 3->res.2.length<=1048576->Below w0.heap.size w0 w->za7 w0.heap.size w wk tb row rows →
  Calls Tryz.prog 127 #[.pointer (some ⟨wk,0,none⟩),.int .i64 a,.int .i64 level] w fun e w'=>e=.returned (.tuple #[])/\za7 w0.heap.size w' wk tb res.1 res.2/\Below w0.heap.size w0 w':=by
 intro n
 induction n using Nat.strongRecOn with
 |_ n ih =>
  intro w a level row rows res hres hlev hlen hb0 hrel0
  obtain rfl|rfl|rfl:level=0∨level=1∨level=2:=by omega
  ·exact z4m w0 tb T fp ht wk n ih w a row rows res hres hlen hb0 hrel0
  ·exact z4n w0 tb T fp ht wk n ih w a row rows res hres hlen hb0 hrel0
  ·exact z4o w0 tb T fp ht wk n ih w a row rows res hres hlen hb0 hrel0
theorem zyc(w:World)(tb:Nat)(T:zad)(fp:List Nat)(ht:zat lo w tb T fp)(n:Nat)(rs:List zao)(hr:zr3 n T=some rs)(hlen:rs.length<=1048576) :
  Calls Tryz.prog 78 #[.pointer (some ⟨tb,0,none⟩)] w fun e w'=>∃ v,e=.returned v/\RowsIn w.heap.size w' v rs/\Below w.heap.size w w':=by
 unfold zr3 at hr
 cases hw:zdh T n 0 0 0 [0,0,0] [] with
 |none=>rw[hw] at hr;cases hr
 |some res =>
  rw[hw] at hr
  simp only[ubp,uab] at hr
  subst hr
  have hrel:za7 w.heap.size (w.alloc (.cells #[.pointer (some ⟨tb,0,none⟩),.int .i64 0,.int .i64 0,.int .i64 0,.slice none 0 0] 223)) w.heap.size tb [0,0,0] []:=⟨0,0,0,_,rfl,uaa _,Box.new _ _ _,World.ownsRow_nil _ _ _ _,by simp⟩
  have HW:Hid (Calls Tryz.prog 127 #[.pointer (some ⟨w.heap.size,0,none⟩),.int .i64 0,.int .i64 0] (w.alloc (.cells #[.pointer (some ⟨tb,0,none⟩),.int .i64 0,.int .i64 0,.int .i64 0,.slice none 0 0] 223)) fun e w'=>e=.returned (.tuple #[])/\za7 w.heap.size w' w.heap.size tb res.1 res.2/\Below w.heap.size w w'):=walk_any w tb T fp ht w.heap.size n _ 0 0 _ _ res hw (by omega) hlen ((Below.refl _ _).alloc (uaa _) _) hrel
  clear hw hrel ht
  go_enter Tryz.func78,Tryz.ntmps78
  go_wp2_with (first|(go_at_call 127;refine HW.out.mono ?_;rintro e w1 ⟨rfl,hwr,hb1⟩;obtain⟨x,y,z,rv,_,_,hbk,hro⟩:=hwr;have HRO:Hid (RowsIn w.heap.size w1 rv res.2):=hro;clear hro;obtain⟨hkc,hkf⟩:=hbk.rules;have hkl:=hbk.lt))
  go_ret
  exact⟨_,rfl,HRO.out,hb1⟩
end Go.Proofs.YteampbddflhngaaGreat
