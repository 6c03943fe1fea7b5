import Derived.Test.YteampbddflhngaaGreatS41
import Derived.Test.YteampbddflhngaaGreatS04

namespace Go.Proofs.YteampbddflhngaaGreat
set_option maxRecDepth 100000
set_option maxHeartbeats 4000000
open Go.RowKit
theorem zv1(w:World)(m:Nat):Below w.heap.size w (w.drewN m):=zau (Below.refl _ _) m
theorem z3a{lo lo2:Nat}(w:World)(va vb:Value)(a b:List ByteArray)(ha:SIn lo w va a)(hb:SIn lo2 w vb b)(hl:a.length<=1000000)(hl2:b.length<=1000000) :
  Calls Tryz.prog 91 #[va,vb] w fun e w'=>e=.returned (.bool (decide (a=b)))/\Below w.heap.size w w':=by
 obtain⟨ao,cap,rfl⟩:=ha.shape
 obtain⟨ao2,cap2,rfl⟩:=hb.shape
 by_cases hne:a.length=b.length
 ·have HLE:Hid (a.length=b.length):=hne
  rw[← hne]
  clear hne
  have HD:Hid (∀ k,k < a.length->a.getD k ByteArray.empty≠b.getD k ByteArray.empty->decide (a=b)=false):=fun k _ q=>by
   simp only[decide_eq_false_iff_not]
   rintro rfl
   exact q rfl
  have HT:Hid ((∀ k,k < a.length->a.getD k ByteArray.empty=b.getD k ByteArray.empty)->decide (a=b)=true):=fun q=>by
   simp only[decide_eq_true_eq]
   refine List.ext_getElem HLE.out fun i h1 h2=>?_
   have:=q i h1
   rwa [getD_lt _ h1,getD_lt _ h2] at this
  generalize decide (a=b)=r at *
  have HA:Hid (SIn lo w (.slice ao a.length cap) a):=ha
  have HB:Hid (SIn lo2 w (.slice ao2 b.length cap2) b):=hb
  clear ha hb
  go_enter Tryz.func91,Tryz.ntmps91
  go_wp2
  go_loopw [5] (fun i wr=>∃ k:Nat,k<=a.length/\i=.int .i64 k/\Hid (∀ j,j < k->a.getD j ByteArray.empty=b.getD j ByteArray.empty)/\Below w.heap.size w wr) (fun i _=>a.length - (intOf i).toNat)
  case atStart=>exact⟨0,Nat.zero_le _,rfl,fun j hj=>by omega,Below.refl _ _⟩
  case round =>
   obtain⟨k,hk,rfl,HK,hbk⟩:=hrel
   have hszk:=hbk.size
   by_cases hlt:k < a.length
   ·have hlt2:k < b.length:=by rw[← HLE.out];exact hlt
    obtain⟨g,rfl,hg,hck⟩:=HA.out.cell k hlt
    obtain⟨g2,e2,hg2,hck2⟩:=HB.out.cell k hlt2
    subst e2
    have hxk:=(hbk.cell (p:=⟨g,k,none⟩) hg).trans hck
    have hxk2:=(hbk.cell (p:=⟨g2,k,none⟩) hg2).trans hck2
    have hgr:g < wr.heap.size:=by omega
    have hgr2:g2 < wr.heap.size:=by omega
    clear hck hck2
    have HGA:Hid (a.getD k ByteArray.empty=a[k]):=getD_lt _ hlt
    have HGB:Hid (b.getD k ByteArray.empty=b[k]):=getD_lt _ hlt2
    by_cases he:a[k]=b[k]
    ·have heq:=zfm he
     have HEQ:Hid (a[k]=b[k]):=he
     clear he
     generalize a[k]=x at *
     generalize b[k]=y at *
     go_wp2
     go_quiet (fail)
     go_wp2
     go_roundw
     case rel=>exact⟨k+1,by omega,by go_num,fun j hj=>(by
      by_cases hjk:j=k
      ·rw[hjk,HGA.out,HGB.out,HEQ.out]
      ·exact HK.out j (by omega)),zau hbk _⟩
     case measure=>simp[intOf];omega
    ·have heq:=zej he
     have HF:Hid (r=false):=HD.out k hlt (by rw[HGA.out,HGB.out];exact he)
     clear he
     generalize a[k]=x at *
     generalize b[k]=y at *
     go_wp2
     go_quiet (fail)
     go_wp2
     go_ret
     exact⟨by rw[HF.out];rfl,zau hbk _⟩
   ·have HF:Hid (r=true):=HT.out fun j hj=>HK.out j (by omega)
    go_wp2
    go_ret
    exact⟨by rw[HF.out];rfl,hbk⟩
 ·have hnei:¬ (a.length:Int)=(b.length:Int):=by omega
  have HF:Hid (decide (a=b)=false):=show decide (a=b)=false by
   simp only[decide_eq_false_iff_not]
   rintro rfl
   exact hne rfl
  generalize decide (a=b)=r at *
  clear ha hb hne
  go_enter Tryz.func91,Tryz.ntmps91
  go_wp2
  go_ret
  exact⟨by rw[HF.out];rfl,Below.refl _ _⟩
def zff:List ByteArray->List ByteArray->Bool
 |a::x,b::y=>if a=b then zff x y else ltB a b
 |_,_=>false
theorem zyy{a b:List ByteArray}{k:Nat}(h1:k < a.length)(h2:k < b.length):zff (a.drop k) (b.drop k)=if a[k]=b[k] then zff (a.drop (k+1)) (b.drop (k+1)) else ltB a[k] b[k]:=by
 rw[List.drop_eq_getElem_cons h1,List.drop_eq_getElem_cons h2]
 rfl
theorem zss{a b:List ByteArray}{k:Nat}(h:¬ (k < a.length/\k < b.length)):zff (a.drop k) (b.drop k)=false:=by
 by_cases h1:k < a.length
 ·rw[List.drop_eq_nil_of_le (show b.length<=k by omega)]
  cases a.drop k <;> rfl
 ·rw[List.drop_eq_nil_of_le (show a.length<=k by omega)]
  rfl
theorem zzw{lo lo2:Nat}(w:World)(va vb:Value)(a b:List ByteArray)(ha:SIn lo w va a)(hb:SIn lo2 w vb b)(hl:a.length<=1000000) :
  Calls Tryz.prog 87 #[va,vb] w fun e w'=>e=.returned (.bool (zff a b))/\Below w.heap.size w w':=by
 obtain⟨ao,cap,rfl⟩:=ha.shape
 obtain⟨ao2,cap2,rfl⟩:=hb.shape
 have HA:Hid (SIn lo w (.slice ao a.length cap) a):=ha
 have HB:Hid (SIn lo2 w (.slice ao2 b.length cap2) b):=hb
 have H0:Hid (zff a b=zff (a.drop 0) (b.drop 0)):=show zff a b=_ from rfl
 clear ha hb
 generalize zff a b=r at *
 go_enter Tryz.func87,Tryz.ntmps87
 go_wp2
 go_loopw [5] (fun i wr=>∃ k:Nat,k<=a.length/\k<=b.length/\i=.int .i64 k/\Hid (r=zff (a.drop k) (b.drop k))/\Below w.heap.size w wr) (fun i _=>a.length - (intOf i).toNat)
 case atStart=>exact⟨0,Nat.zero_le _,Nat.zero_le _,rfl,H0,Below.refl _ _⟩
 case round =>
  obtain⟨k,hk,hk2,rfl,HK,hbk⟩:=hrel
  have hszk:=hbk.size
  by_cases hlt:k < a.length
  ·have hlti:(k:Int) < (a.length:Int):=by omega
   by_cases hlt2:k < b.length
   ·have hlti2:(k:Int) < (b.length:Int):=by omega
    have q:=HK.out
    rw[zyy hlt hlt2] at q
    have HQ:Hid (r=if a[k]=b[k] then zff (a.drop (k+1)) (b.drop (k+1)) else ltB a[k] b[k]):=q
    clear q HK
    obtain⟨g,rfl,hg,hck⟩:=HA.out.cell k hlt
    obtain⟨g2,rfl,hg2,hck2⟩:=HB.out.cell k hlt2
    have hxk:=(hbk.cell (p:=⟨g,k,none⟩) hg).trans hck
    have hxk2:=(hbk.cell (p:=⟨g2,k,none⟩) hg2).trans hck2
    have hgr:g < wr.heap.size:=by omega
    have hgr2:g2 < wr.heap.size:=by omega
    clear hck hck2
    by_cases he:a[k]=b[k]
    ·have heq:=zfm he
     have HF:Hid (r=zff (a.drop (k+1)) (b.drop (k+1))):=show r=_ by rw[HQ.out,if_pos he]
     clear he HQ
     generalize a[k]=x at *
     generalize b[k]=y at *
     go_wp2
     go_quiet (fail)
     go_wp2
     go_roundw
     case rel=>exact⟨k+1,by omega,by omega,by go_num,HF,zau hbk _⟩
     case measure=>simp[intOf];omega
    ·have heq:=zej he
     have HF:Hid (r=ltB a[k] b[k]):=show r=_ by rw[HQ.out,if_neg he]
     clear he HQ
     unfold ltB at HF
     generalize a[k]=x at *
     generalize b[k]=y at *
     go_wp2
     go_quiet (fail)
     have hBq:=zv1 wr nq
     have hyk:=(hBq.cell (p:=⟨g,k,none⟩) hgr).trans hxk
     have hyk2:=(hBq.cell (p:=⟨g2,k,none⟩) hgr2).trans hxk2
     have hgq:g < (wr.drewN nq).heap.size:=Nat.lt_of_lt_of_le hgr hBq.size
     have hgq2:g2 < (wr.drewN nq).heap.size:=Nat.lt_of_lt_of_le hgr2 hBq.size
     have hBw:Below w.heap.size w (wr.drewN nq):=zau hbk _
     clear hxk hxk2
     generalize wr.drewN nq=wq at *
     go_wp2
     go_quiet (fail)
     go_wp2
     go_ret
     exact⟨by rw[HF.out];rfl,zau hBw _⟩
   ·have hlti2:¬ (k:Int) < (b.length:Int):=by omega
    have HF:Hid (r=false):=show r=false by rw[HK.out];exact zss (fun q=>hlt2 q.2)
    go_wp2
    go_ret
    exact⟨by rw[HF.out];rfl,hbk⟩
  ·have hlti:¬ (k:Int) < (a.length:Int):=by omega
   have HF:Hid (r=false):=show r=false by rw[HK.out];exact zss (fun q=>hlt q.1)
   go_wp2
   go_ret
   exact⟨by rw[HF.out];rfl,hbk⟩
abbrev zgc:=ByteArray × List ByteArray × Nat
def zgt(w:World)(v:Value)(fs:List zgc):Prop:=∃ ao cap,v=.slice ao fs.length cap/\∀ i (h:i < fs.length),∃ g gi lo,ao=some ⟨g,0,none⟩/\g < w.heap.size/\w.cell? ⟨g,i * 3,none⟩=some (.string fs[i].1)/\w.cell? ⟨g,i * 3+1,none⟩=some (.slice (some ⟨gi,0,none⟩) fs[i].2.1.length fs[i].2.1.length)/\w.cell? ⟨g,i * 3+2,none⟩=some (.int .i64 (fs[i].2.2:Nat))/\SIn lo w (.slice (some ⟨gi,0,none⟩) fs[i].2.1.length fs[i].2.1.length) fs[i].2.1
theorem zgt.below{w w':World}{v:Value}{fs:List zgc}(h:zgt w v fs)(hb:Below w.heap.size w w'):zgt w' v fs:=by
 obtain⟨ao,cap,h1,h2⟩:=h
 refine⟨ao,cap,h1,fun i hi=>?_⟩
 obtain⟨g,gi,lo,q1,q2,q3,q4,q5,q6⟩:=h2 i hi
 exact⟨g,gi,lo,q1,Nat.lt_of_lt_of_le q2 hb.size,(hb.cell (p:=⟨g,i * 3,none⟩) q2).trans q3,(hb.cell (p:=⟨g,i * 3+1,none⟩) q2).trans q4,(hb.cell (p:=⟨g,i * 3+2,none⟩) q2).trans q5,q6.below hb⟩
def zjw(pred:ByteArray)(row:List ByteArray):List zgc->Option Nat
 |[]=>none
 |f::fs=>if f.1=pred/\f.2.1=row then some 0 else(zjw pred row fs).map (·+1)
def z2h(pred:ByteArray)(row:List ByteArray)(fs:List zgc):Int:=match zjw pred row fs with
 |none=>-1
 |some k=>k
theorem zzi{pred:ByteArray}{row:List ByteArray}{fs:List zgc}{k:Nat}(hk:k < fs.length):zjw pred row (fs.drop k)=if fs[k].1=pred/\fs[k].2.1=row then some 0 else(zjw pred row (fs.drop (k+1))).map (·+1):=by
 rw[List.drop_eq_getElem_cons hk]
 rfl
theorem z2y{lo2:Nat}(w:World)(v:Value)(fs:List zgc)(pred:ByteArray)(vr:Value)(row:List ByteArray)(h:zgt w v fs)(hr:SIn lo2 w vr row)(hl:fs.length<=10000000)(hl2:row.length<=1000000)(hl3:∀ f∈fs,f.2.1.length<=1000000) :
  Calls Tryz.prog 53 #[v,.string pred,vr] w fun e w'=>e=.returned (.int .i64 (z2h pred row fs))/\Below w.heap.size w w':=by
 have HSA:Hid (∀ W lo va (a:List ByteArray),Below w.heap.size w W->SIn lo W va a->a.length<=1000000->Calls Tryz.prog 91 #[va,vr] W fun e w'=>e=.returned (.bool (decide (a=row)))/\Below W.heap.size W w'):=fun W lo va a hb ha hq=>z3a W va vr a row ha (hr.below hb) hq hl2
 obtain⟨aor,capr,rfl⟩:=hr.shape
 obtain⟨ao,cap,rfl,hcells⟩:=h
 have HC:Hid (∀ i (h:i < fs.length),∃ g gi lo,ao=some ⟨g,0,none⟩/\g < w.heap.size/\w.cell? ⟨g,i * 3,none⟩=some (.string fs[i].1)/\w.cell? ⟨g,i * 3+1,none⟩=some (.slice (some ⟨gi,0,none⟩) fs[i].2.1.length fs[i].2.1.length)/\w.cell? ⟨g,i * 3+2,none⟩=some (.int .i64 (fs[i].2.2:Nat))/\SIn lo w (.slice (some ⟨gi,0,none⟩) fs[i].2.1.length fs[i].2.1.length) fs[i].2.1):=hcells
 have HL3:Hid (∀ f∈fs,f.2.1.length<=1000000):=hl3
 have H0:Hid (zjw pred row fs=(zjw pred row (fs.drop 0)).map (·+0)):=show zjw pred row fs=_ by simp
 have HI:Hid (z2h pred row fs=match zjw pred row fs with|none=>-1|some k=>(k:Int)):=show z2h pred row fs=_ from rfl
 clear hcells hr hl3
 generalize z2h pred row fs=ri at *
 generalize zjw pred row fs=rf at *
 go_enter Tryz.func53,Tryz.ntmps53
 go_wp2
 go_loopw [7,8] (fun i _ wr=>∃ k:Nat,k<=fs.length/\i=.int .i64 k/\Hid (rf=(zjw pred row (fs.drop k)).map (·+k))/\Below w.heap.size w wr) (fun i _ _=>fs.length - (intOf i).toNat)
 case atStart=>exact⟨0,Nat.zero_le _,rfl,H0,Below.refl _ _⟩
 case round =>
  obtain⟨k,hk,rfl,HK,hbk⟩:=hrel
  have hszk:=hbk.size
  by_cases hlt:k < fs.length
  ·have hlti:(k:Int) < (fs.length:Int):=by omega
   obtain⟨g,gi,lo3,rfl,hg,c0,c1,_,hS⟩:=HC.out k hlt
   have q:=HK.out
   rw[zzi hlt] at q
   have HQ:Hid (rf=(if fs[k].1=pred/\fs[k].2.1=row then some 0 else(zjw pred row (fs.drop (k+1))).map (·+1)).map (·+k)):=q
   clear q HK
   have x0:=(hbk.cell (p:=⟨g,k * 3,none⟩) hg).trans c0
   have x1:=(hbk.cell (p:=⟨g,k * 3+1,none⟩) hg).trans c1
   have hgr:g < wr.heap.size:=by omega
   have HS:Hid (Calls Tryz.prog 91 #[.slice (some ⟨gi,0,none⟩) fs[k].2.1.length fs[k].2.1.length,.slice aor row.length capr] wr fun e w'=>e=.returned (.bool (decide (fs[k].2.1=row)))/\Below wr.heap.size wr w'):=HSA.out wr lo3 _ _ hbk (hS.below hbk) (HL3.out _ (List.getElem_mem hlt))
   clear c0 c1 hS
   generalize fs[k].2.1.length=fl at *
   generalize fs[k].2.1=fr at *
   generalize fs[k].1=fp at *
   by_cases he:fp=pred
   ·have heq:=zfm he
    by_cases he2:fr=row
    ·have HF:Hid (rf=some k):=show rf=some k by rw[HQ.out,if_pos ⟨he,he2⟩];simp
     have HFI:Hid (ri=(k:Int)):=show ri=(k:Int) by rw[HI.out,HF.out]
     rw[show decide (fr=row)=true by simp[he2]] at HS
     clear HQ he he2
     go_wp2_with (first|(go_at_call 91;refine HS.out.mono ?_;rintro e w1 ⟨rfl,hb1⟩))
     go_ret
     exact⟨by rw[HFI.out];rfl,zae hbk hb1 (Nat.le_refl _)⟩
    ·have HF:Hid (rf=(zjw pred row (fs.drop (k+1))).map (·+(k+1))):=show rf=_ by
      rw[HQ.out,if_neg (fun z=>he2 z.2),Option.map_map]
      congr 1
      funext z
      simp only[Function.comp];omega
     rw[show decide (fr=row)=false by simp[he2]] at HS
     clear HQ he he2
     go_wp2_with (first|(go_at_call 91;refine HS.out.mono ?_;rintro e w1 ⟨rfl,hb1⟩))
     exact⟨⟨k+1,by omega,by go_num,HF,zae hbk hb1 (Nat.le_refl _)⟩,by simp[intOf];omega⟩
   ·have heq:=zej he
    have HF:Hid (rf=(zjw pred row (fs.drop (k+1))).map (·+(k+1))):=show rf=_ by
     rw[HQ.out,if_neg (fun z=>he z.1),Option.map_map]
     congr 1
     funext z
     simp only[Function.comp];omega
    clear HQ he
    go_wp2
    exact⟨⟨k+1,by omega,by go_num,HF,hbk⟩,by simp[intOf];omega⟩
  ·have hlti:¬ (k:Int) < (fs.length:Int):=by omega
   have HFI:Hid (ri=-1):=show ri=-1 by
    rw[HI.out,HK.out,List.drop_eq_nil_of_le (by omega)]
    rfl
   go_wp2
   go_ret
   exact⟨by rw[HFI.out];rfl,hbk⟩
structure Told (t:List zaq) (ns:List ByteArray) (R:zbg):Prop where
 rise:zcb (namesT t)
 nrise:zcb ns
 inv:zez (t.map (·.arity)) (za4 ns.length) R
 small:∀ a∈t.map (·.arity),a<=3
 inside:zvj (t.map (·.arity)) ns.length (zc2 (t.map (·.arity)) R)
 few:R.count<=1048576/\t.length<=1000/\ns.length<=1000
def zc4(R:zbg)(p:Nat):List zao:=(keysT (R.rows.getD p zad.zero)).map fun k=>pad k (R.rows.getD p zad.zero).depth
def zim(t:List zaq)(p:Nat):ByteArray:=(namesT t).getD p ByteArray.empty
def zk6(t:List zaq)(ns:List ByteArray)(R:zbg)(p:Nat)(r:zao):zgc:=(zim t p,za1 ns r (za0 t p) 3,(zdv (R.rows.getD p zad.zero) r).getD 0)
def za7(t:List zaq)(ns:List ByteArray)(R:zbg)(n:Nat):List zgc:=(List.range n).flatMap fun p=>(zc4 R p).map (zk6 t ns R p)
theorem Told.len{t:List zaq}{ns:List ByteArray}{R:zbg}(h:Told t ns R):R.rows.length=t.length:=by have:=h.inv.len;simpa using this
theorem Told.name{t:List zaq}{ns:List ByteArray}{R:zbg}(h:Told t ns R){p:Nat}(hp:p < t.length):(zbi t (zim t p)).isSome=true/\zbe t (zim t p)=p/\zim t p=t[p].name:=by
 have hn:zim t p=t[p].name:=by unfold zim namesT;simp[List.getD,hp]
 have hpl:zai t t[p].name=p:=by
  rcases Nat.lt_trichotomy (zai t t[p].name) p with q|q|q
  ·have h1:=zni t t[p].name h.rise t[zai t t[p].name] (by
    rw[List.mem_iff_getElem]
    exact⟨0,by simp;omega,by simp⟩)
   have hr:=List.pairwise_iff_getElem.1 h.rise (zai t t[p].name) p (by simp[namesT];omega) (by simp[namesT];omega) q
   simp only[namesT,List.getElem_map] at hr
   rw[hr] at h1
   cases h1
  ·exact q
  ·have h1:=znj t t[p].name t[p] (by
    rw[List.mem_iff_getElem]
    exact⟨p,by simp;omega,by simp⟩)
   rw[lt_irrefl] at h1
   cases h1
 have he:zbi t t[p].name=some t[p]:=by
  unfold zbi
  rw[hpl,List.getElem?_eq_getElem hp]
  simp
 rw[hn]
 exact⟨by rw[he];rfl,by unfold zbe;rw[he,hpl];rfl,rfl⟩
theorem Told.ar{t:List zaq}{ns:List ByteArray}{R:zbg}(h:Told t ns R){p:Nat}(hp:p < t.length):za0 t p<=3/\(t.map (·.arity)).getD p 0=za0 t p:=by
 refine⟨?_,rfl⟩
 unfold za0
 rw[getD_lt _ (by simpa using hp)]
 exact h.small _ (List.getElem_mem _)
theorem Told.row{t:List zaq}{ns:List ByteArray}{R:zbg}(h:Told t ns R){p:Nat}(hp:p < t.length){r:zao}(hr:r∈zc4 R p):InD (zc2 (t.map (·.arity)) R) p r/\Canon (za0 t p) r/\∀ i,i < za0 t p->r.getD i 0 < ns.length:=by
 have hpr:p < R.rows.length:=by rw[h.len];exact hp
 have hin:InD (zc2 (t.map (·.arity)) R) p r:=by
  refine(zjm h.inv h.small hpr r).1 ?_
  unfold zc4 at hr
  rw[getD_lt _ hpr] at hr
  exact hr
 exact⟨hin,(zl1 _ R p r hin).2,h.inside p r hin⟩
theorem Told.rows{t:List zaq}{ns:List ByteArray}{R:zbg}(h:Told t ns R){p:Nat}(hp:p < R.rows.length):∃ fuel,rowsG fuel R.rows[p]=some (zc4 R p)/\(zc4 R p).length<=1048576:=by
 obtain⟨t1,t2,t3,t4⟩:=h.inv.tries p hp
 have hge:=zyl R.rows p hp
 rw[← h.inv.cnt] at hge
 have:=h.few.1
 refine⟨3 * (R.rows[p].width+1),?_,?_⟩
 ·rw[t1.rowsG _ (Nat.le_refl _) (by omega)]
  unfold zc4
  rw[getD_lt _ hp]
 ·unfold zc4
  rw[getD_lt _ hp,List.length_map,t1.cnt]
  omega
theorem Told.when{t:List zaq}{ns:List ByteArray}{R:zbg}(h:Told t ns R){p:Nat}(hp:p < t.length){r:zao}(hr:r∈zc4 R p):zve t ns R (zim t p) (za1 ns r (za0 t p) 3)=((zk6 t ns R p r).2.2,0):=by
 obtain⟨n1,n2,_⟩:=h.name hp
 obtain⟨q1,q2,q3⟩:=h.row hp hr
 have hpr:p < R.rows.length:=by rw[h.len];exact hp
 unfold zve
 rw[n2,if_neg (by rintro(z|z);rw[n1] at z;cases z;omega),if_neg (by rw[zdq];simp),zmk h.nrise (h.ar hp).1 q2 q3]
 simp only
 unfold InD zc2 at q1
 rw[if_pos ⟨by simpa using hp,q2⟩] at q1
 cases hm:zdv (R.rows.getD p zad.zero) r with
 |none=>rw[hm] at q1;cases q1
 |some m=>simp only[zk6,hm,Option.getD_some]
theorem zst{ns:List ByteArray}(hn:zcb ns):∀(a b:zao),(∀ v∈a,v < ns.length)->(∀ v∈b,v < ns.length)->ltR a b->zff (a.map fun v=>ns.getD v ByteArray.empty) (b.map fun v=>ns.getD v ByteArray.empty)=true
 |x::a,y::b,ha,hb,h=>by
  simp only[List.map_cons,zff]
  rcases h with h|⟨rfl,h⟩
  ·have hl:=zlq hn h (hb y (by simp))
   rw[if_neg]
   ·exact hl
   ·intro e
    rw[e,lt_irrefl] at hl
    cases hl
  ·rw[if_pos rfl]
   exact zst hn a b (fun v hv=>ha v (by simp[hv])) (fun v hv=>hb v (by simp[hv])) h
 |[],_,_,_,h=>h.elim
 |_::_,[],_,_,h=>h.elim
theorem zra{ns:List ByteArray}{k:zao}{ar:Nat}(hk:k.length=ar)(h3:ar<=3):za1 ns (pad k ar) ar 3=k.map fun v=>ns.getD v ByteArray.empty:=by
 refine List.ext_getElem (by simp[za1,hk]) fun i h1 h2=>?_
 have hi:i < ar:=by rw[zdq] at h1;exact h1
 simp only[za1,List.getElem_map,List.getElem_range]
 rw[if_pos (by omega)]
 congr 1
 unfold pad
 rw[List.getD_eq_getElem?_getD,List.getElem?_append_left (by omega),List.getElem?_eq_getElem (by omega)]
 rfl
theorem Told.sorted{t:List zaq}{ns:List ByteArray}{R:zbg}(h:Told t ns R){p:Nat}(hp:p < t.length){i j:Nat}(hij:i < j)(hj:j < (zc4 R p).length):zff (za1 ns ((zc4 R p)[i]'(by omega)) (za0 t p) 3) (za1 ns (zc4 R p)[j] (za0 t p) 3)=true:=by
 have hpr:p < R.rows.length:=by rw[h.len];exact hp
 obtain⟨t1,t2,t3,t4⟩:=h.inv.tries p hpr
 obtain⟨ha3,haa⟩:=h.ar hp
 have hg:R.rows.getD p zad.zero=R.rows[p]:=getD_lt _ hpr
 have hri:=(h.row hp (List.getElem_mem (show i < (zc4 R p).length by omega))).2
 have hrj:=(h.row hp (List.getElem_mem hj)).2
 simp only[zc4,hg,List.length_map] at hj
 simp only[zc4,hg,List.getElem_map] at hri hrj ⊢
 have hs:=List.pairwise_iff_getElem.1 (zi1 R.rows[p] R.rows[p].depth 0 0) i j (show i < (keysT R.rows[p]).length by omega) hj hij
 have li:=((zbq R.rows[p] _).1 (List.getElem_mem (show i < (keysT R.rows[p]).length by omega))).1
 have lj:=((zbq R.rows[p] _).1 (List.getElem_mem hj)).1
 change ltR (keysT R.rows[p])[i] (keysT R.rows[p])[j] at hs
 generalize (keysT R.rows[p])[i]=ki at *
 generalize (keysT R.rows[p])[j]=kj at *
 rw[haa] at t3
 by_cases h0:za0 t p=0
 ·have hd1:R.rows[p].depth=1:=by rw[t3,h0];rfl
  rw[hd1] at li lj hri hrj
  have hz:∀ k:zao,k.length=1->Canon 0 (pad k 1)->k=[0]:=by
   intro k hk hc
   match k,hk with
   |[v],_ =>
    have:=hc.2 0 (Nat.le_refl _)
    simp[pad] at this
    rw[this]
  rw[h0] at hri hrj
  rw[hz ki li hri.1,hz kj lj hrj.1] at hs
  exact absurd hs (zmd _)
 ·have hd:R.rows[p].depth=za0 t p:=by rw[t3,zgy h0 ha3]
  rw[hd] at li lj hri hrj ⊢
  rw[zra li ha3,zra lj ha3]
  have hsm:∀ k:zao,k.length=za0 t p->(∀ i,i < za0 t p->(pad k (za0 t p)).getD i 0 < ns.length)->∀ v∈k,v < ns.length:=by
   intro k hk hq v hv
   obtain⟨i,hi,rfl⟩:=List.getElem_of_mem hv
   have:=hq i (by omega)
   unfold pad at this
   rw[List.getD_eq_getElem?_getD,List.getElem?_append_left (by omega),List.getElem?_eq_getElem hi] at this
   exact this
  exact zst h.nrise ki kj (hsm ki li hri.2) (hsm kj lj hrj.2) hs
end Go.Proofs.YteampbddflhngaaGreat
