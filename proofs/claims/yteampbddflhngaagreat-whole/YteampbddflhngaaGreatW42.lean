import Derived.Test.YteampbddflhngaaGreatW41
import Derived.Test.YteampbddflhngaaGreatW40
import Derived.Test.YteampbddflhngaaGreatW09
import Derived.Deep.RegionLaw

namespace Go.Proofs.YteampbddflhngaaGreat
variable {t:List zar}{ns:List ByteArray}{R:zbg}{p:Nat}
structure Told (t:List zar) (ns:List ByteArray) (R:zbg):Prop where
 rise:zcg (namesT t)
 nrise:zcg ns
 inv:zey (t.map (·.je)) (za4 ns.length) R
 small:∀ a∈t.map (·.je),a<=3
 inside:zvd (t.map (·.je)) ns.length (zc2 (t.map (·.je)) R)
 few:R.count<=1048576/\t.length<=1000/\ns.length<=1000
def zc4(R:zbg)(p:Nat):List zao:=(keysT (R.rows.getD p zad.zero)).map fun k=>pad k (R.rows.getD p zad.zero).qp
def zik(t:List zar)(p:Nat):ByteArray:=(namesT t).getD p ByteArray.empty
def zk1(t:List zar)(ns:List ByteArray)(R:zbg)(p:Nat)(r:zao):zg4:=(zik t p,za1 ns r (za0 t p) 3,(zdt (R.rows.getD p zad.zero) r).getD 0)
def zcl(t:List zar)(ns:List ByteArray)(R:zbg)(n:Nat):List zg4:=(List.range n).flatMap fun p=>(zc4 R p).map (zk1 t ns R p)
theorem Told.len{t:List zar}{ns:List ByteArray}{R:zbg}(h:Told t ns R):R.rows.length=t.length:=by have:=h.inv.len;simpa using this
theorem Told.name{t:List zar}{ns:List ByteArray}{R:zbg}(h:Told t ns R){p:Nat}(hp:p < t.length):(zbh t (zik t p)).isSome=true/\zbd t (zik t p)=p/\zik t p=t[p].name:=by
 have hn:zik t p=t[p].name:=by unfold zik namesT;simp[List.getD,hp]
 have hpl:zai t t[p].name=p:=by
  rcases uc4 (zai t t[p].name) p with q|q|q
  ·have h1:=znf t t[p].name h.rise t[zai t t[p].name] (by
    rw[uby]
    exact⟨0,by simp;omega,by simp⟩)
   have hr:=ubx.1 h.rise (zai t t[p].name) p (by simp[namesT];omega) (by simp[namesT];omega) q
   simp only[namesT,uaw] at hr
   rw[hr] at h1
   cases h1
  ·exact q
  ·have h1:=zng t t[p].name t[p] (by
    rw[uby]
    exact⟨p,by simp;omega,by simp⟩)
   rw[lt_irrefl] at h1
   cases h1
 have he:zbh t t[p].name=some t[p]:=by
  unfold zbh
  rw[hpl,uac hp]
  simp
 rw[hn]
 exact⟨by rw[he];rfl,by unfold zbd;rw[he,hpl];rfl,rfl⟩
theorem Told.ar(h:Told t ns R)(hp:p < t.length):za0 t p<=3/\(t.map (·.je)).getD p 0=za0 t p:=by
 refine⟨?_,rfl⟩
 unfold za0
 rw[getD_lt _ (by simpa using hp)]
 exact h.small _ (uad _)
theorem Told.row(h:Told t ns R)(hp:p < t.length){r:zao}(hr:r∈zc4 R p):InD (zc2 (t.map (·.je)) R) p r/\Canon (za0 t p) r/\∀ i,i < za0 t p->r.getD i 0 < ns.length:=by
 have hpr:p < R.rows.length:=by rw[h.len];exact hp
 have hin:InD (zc2 (t.map (·.je)) R) p r:=by
  refine(zjk h.inv h.small hpr r).1 ?_
  unfold zc4 at hr
  rw[getD_lt _ hpr] at hr
  exact hr
 exact⟨hin,(zlw _ R p r hin).2,h.inside p r hin⟩
theorem Told.rows{t:List zar}{ns:List ByteArray}{R:zbg}(h:Told t ns R){p:Nat}(hp:p < R.rows.length):∃ fuel,rowsG fuel R.rows[p]=some (zc4 R p)/\(zc4 R p).length<=1048576:=by
 obtain⟨t1,t2,t3,t4⟩:=h.inv.tries p hp
 have hge:=zye R.rows p hp
 rw[← h.inv.cnt] at hge
 have:=h.few.1
 refine⟨3 * (R.rows[p].qg+1),?_,?_⟩
 ·rw[t1.rowsG _ (uaa _) (by omega)]
  unfold zc4
  rw[getD_lt _ hp]
 ·unfold zc4
  rw[getD_lt _ hp,ua0,t1.cnt]
  omega
theorem Told.when(h:Told t ns R)(hp:p < t.length){r:zao}(hr:r∈zc4 R p):zu7 t ns R (zik t p) (za1 ns r (za0 t p) 3)=((zk1 t ns R p r).2.2,0):=by
 obtain⟨n1,n2,_⟩:=h.name hp
 obtain⟨q1,q2,q3⟩:=h.row hp hr
 have hpr:p < R.rows.length:=by rw[h.len];exact hp
 unfold zu7
 rw[n2,if_neg (by rintro(z|z);rw[n1] at z;cases z;omega),if_neg (by rw[zdo];simp),zmh h.nrise (h.ar hp).1 q2 q3]
 simp only
 unfold InD zc2 at q1
 rw[if_pos ⟨by simpa using hp,q2⟩] at q1
 cases hm:zdt (R.rows.getD p zad.zero) r with
 |none=>rw[hm] at q1;cases q1
 |some m=>simp only[zk1,hm,uas]
theorem zso{ns:List ByteArray}(hn:zcg ns):∀(a b:zao),(∀ v∈a,v < ns.length)->(∀ v∈b,v < ns.length)->ltR a b->zff (a.map fun v=>ns.getD v ByteArray.empty) (b.map fun v=>ns.getD v ByteArray.empty)=true
 |x::a,y::b,ha,hb,h=>by
  simp only[ubu,zff]
  rcases h with h|⟨rfl,h⟩
  ·have hl:=zll hn h (hb y (by simp))
   rw[if_neg]
   ·exact hl
   ·intro e
    rw[e,lt_irrefl] at hl
    cases hl
  ·rw[if_pos rfl]
   exact zso hn a b (fun v hv=>ha v (by simp[hv])) (fun v hv=>hb v (by simp[hv])) h
 |[],_,_,_,h=>h.elim
 |_::_,[],_,_,h=>h.elim
theorem zq6{k:zao}{ar:Nat}(hk:k.length=ar)(h3:ar<=3):za1 ns (pad k ar) ar 3=k.map fun v=>ns.getD v ByteArray.empty:=by
 refine ubg (by simp[za1,hk]) fun i h1 h2=>?_
 have hi:i < ar:=by rw[zdo] at h1;exact h1
 simp only[za1,uaw,ub0]
 rw[if_pos (by omega)]
 congr 1
 unfold pad
 rw[uaf,uca (by omega),uac (by omega)]
 rfl
theorem Told.sorted(h:Told t ns R)(hp:p < t.length){i j:Nat}(hij:i < j)(hj:j < (zc4 R p).length):zff (za1 ns ((zc4 R p)[i]'(by omega)) (za0 t p) 3) (za1 ns (zc4 R p)[j] (za0 t p) 3)=true:=by
 have hpr:p < R.rows.length:=by rw[h.len];exact hp
 obtain⟨t1,t2,t3,t4⟩:=h.inv.tries p hpr
 obtain⟨ha3,haa⟩:=h.ar hp
 have hg:R.rows.getD p zad.zero=R.rows[p]:=getD_lt _ hpr
 have hri:=(h.row hp (uad (show i < (zc4 R p).length by omega))).2
 have hrj:=(h.row hp (uad hj)).2
 simp only[zc4,hg,ua0] at hj
 simp only[zc4,hg,uaw] at hri hrj ⊢
 have hs:=ubx.1 (ziz R.rows[p] R.rows[p].qp 0 0) i j (show i < (keysT R.rows[p]).length by omega) hj hij
 have li:=((zbp R.rows[p] _).1 (uad (show i < (keysT R.rows[p]).length by omega))).1
 have lj:=((zbp R.rows[p] _).1 (uad hj)).1
 change ltR (keysT R.rows[p])[i] (keysT R.rows[p])[j] at hs
 generalize (keysT R.rows[p])[i]=ki at *
 generalize (keysT R.rows[p])[j]=kj at *
 rw[haa] at t3
 by_cases h0:za0 t p=0
 ·have hd1:R.rows[p].qp=1:=by rw[t3,h0];rfl
  rw[hd1] at li lj hri hrj
  have hz:∀ k:zao,k.length=1->Canon 0 (pad k 1)->k=[0]:=by
   intro k hk hc
   match k,hk with
   |[v],_ =>
    have:=hc.2 0 (uaa _)
    simp[pad] at this
    rw[this]
  rw[h0] at hri hrj
  rw[hz ki li hri.1,hz kj lj hrj.1] at hs
  exact absurd hs (zl9 _)
 ·have hd:R.rows[p].qp=za0 t p:=by rw[t3,zgv h0 ha3]
  rw[hd] at li lj hri hrj ⊢
  rw[zq6 li ha3,zq6 lj ha3]
  have hsm:∀ k:zao,k.length=za0 t p->(∀ i,i < za0 t p->(pad k (za0 t p)).getD i 0 < ns.length)->∀ v∈k,v < ns.length:=by
   intro k hk hq v hv
   obtain⟨i,hi,rfl⟩:=uau hv
   have:=hq i (by omega)
   unfold pad at this
   rw[uaf,uca (by omega),uac hi] at this
   exact this
  exact zso h.nrise ki kj (hsm ki li hri.2) (hsm kj lj hrj.2) hs
end Go.Proofs.YteampbddflhngaaGreat
namespace Go.Proofs.YteampbddflhngaaGreat
set_option maxRecDepth 100000
set_option maxHeartbeats 4000000
open Go.RowKit
theorem Tryz.infoFactK:(Tryz.prog.info? 114).map (fun i=>(i.zero,i.size,i.bytes))=some (some (.agg #[.string ByteArray.empty,.slice none 0 0,.int .i64 0]),3,48):=by kernel_rfl
def zph(f:zg4)(g:Nat):List Value:=[.string f.1,.slice (some ⟨g,0,none⟩) f.2.1.length f.2.1.length,.int .i64 (f.2.2:Nat)]
def zg8(fs:List zg4)(gs:List Nat):List Value:=(List.zipWith zph fs gs).flatten
structure zjq (B:Nat) (w:World) (v:Value) (fs:List zg4) (gs:List Nat):Prop where
 len:gs.length=fs.length
 own:w.ownsRow B 114 3 v fs.length (zg8 fs gs)
 rows:∀ i (h:i < fs.length) (h2:i < gs.length),SIn B w (.slice (some ⟨gs[i],0,none⟩) fs[i].2.1.length fs[i].2.1.length) fs[i].2.1
theorem zjq.below{B:Nat}{w w':World}{v:Value}{fs:List zg4}{gs:List Nat}(h:zjq B w v fs gs)(hb:Below w.heap.size w w'):zjq B w' v fs gs:=⟨h.len,zaa h.own hb,fun i a b=>(h.rows i a b).below hb⟩
theorem zvy{fs:List zg4}{gs:List Nat}(h:gs.length=fs.length)(f:zg4)(g:Nat):zg8 (fs++[f]) (gs++[g])=zg8 fs gs++zph f g:=by
 unfold zg8
 rw[ucv h.symm]
 simp
theorem zjq.push{B:Nat}{w w3:World}{v v':Value}{fs:List zg4}{gs:List Nat}(h:zjq B w v fs gs){f:zg4}{g:Nat}(hS:zas v.ownBlock.toList w w3)(ho:w3.ownsRow B 114 3 v' (fs.length+1) (zg8 fs gs++zph f g))(hs:SIn B w (.slice (some ⟨g,0,none⟩) f.2.1.length f.2.1.length) f.2.1):zjq B w3 v' (fs++[f]) (gs++[g]):=by
 have hM:=OfT.own h.own
 refine⟨by simp[h.len],by rw[zvy h.len,uar];exact ho,fun i a b=>?_⟩
 by_cases hi:i < fs.length
 ·have hi2:i < gs.length:=by rw[h.len];exact hi
  rw[uan hi,uan hi2]
  exact zaj (h.rows i hi hi2) hS hM (by decide)
 ·have e:i=fs.length:=by simp at a;omega
  subst e
  have e2:(gs++[g])[fs.length]=g:=by simp[h.len]
  rw[e2]
  simp only[ucp (uaa _),ubs,ucw]
  exact zaj hs hS hM (by decide)
theorem zn4(t:List zar)(ns:List ByteArray)(R:zbg)(m:Nat):zcl t ns R (m+1)=zcl t ns R m++(zc4 R m).map (zk1 t ns R m):=by
 unfold zcl
 rw[List.range_succ,List.flatMap_append]
 simp
theorem z9a{lo lp lq:Nat}(w:World)(pb rb:Nat)(cs:List zab)(t:List zar)(ns:List ByteArray)(R:zbg)(pv nv rv:Value)(tbs:List Nat)(hP:zkr lq w pb cs t)(hR:zva lo lp w rb t ns R pv nv rv tbs)(hT:Told t ns R)(hmany:(zcl t ns R t.length).length<=10000000) :
  Calls Tryz.prog 49 #[.pointer (some ⟨pb,0,none⟩),.pointer (some ⟨rb,0,none⟩)] w fun e w'=>∃ v gs,e=.returned (.tuple #[v,.bool true])/\zjq w.heap.size w' v (zcl t ns R t.length) gs/\Below w.heap.size w w':=by
 obtain⟨i0,hi,hz0,hzs,hzb⟩:=info_parts Tryz.infoFactK
 have HPR:Hid (Calls Tryz.prog 86 #[.pointer (some ⟨pb,0,none⟩)] w fun e w'=>∃ g,w.heap.size<=g/\e=.returned (.slice (some ⟨g,0,none⟩) t.length t.length)/\Hid (SIn w.heap.size w' (.slice (some ⟨g,0,none⟩) t.length t.length) (namesT t))/\Below w.heap.size w w'):=zz7 w pb cs t hP hT.few.2.1
 have HRE:Hid (zva lo lp w rb t ns R pv nv rv tbs):=hR
 have HTO:Hid (Told t ns R):=hT
 have htl:=hT.few.2.1
 clear hP hR hT
 go_enter Tryz.func49,Tryz.ntmps49
 go_wp2_with (first|(go_at_call 86;refine HPR.out.mono ?_;rintro e w1 ⟨gp,hgp,rfl,HS1,hb1⟩))
 go_loopw [6,8,9,10,11,12,13,14] (fun v6 v8 _ _ _ _ _ _ wr=>∃(m:Nat) (gs:List Nat) (ao:Option Addr) (cap:Nat),m<=t.length/\v8=.int .i64 m/\v6=.slice ao (zcl t ns R m).length cap/\Below w.heap.size w wr/\Hid (SIn w.heap.size wr (.slice (some ⟨gp,0,none⟩) t.length t.length) (namesT t))/\Hid (zjq w.heap.size wr (.slice ao (zcl t ns R m).length cap) (zcl t ns R m) gs)) (fun _ i _ _ _ _ _ _ _=>t.length - (intOf i).toNat)
 case atStart=>exact⟨0,[],none,0,uaj _,rfl,rfl,hb1,HS1,⟨rfl,World.ownsRow_nil _ _ _ _,fun i h=>by simp[zcl] at h⟩⟩
 case round =>
  clear HS1
  obtain⟨m,gs,ao,cap,hm,rfl,rfl,hbk,HS,HO⟩:=hrel
  by_cases hml:m < t.length
  ·have hmi:(m:Int) < (t.length:Int):=by omega
   have hmr:m < R.rows.length:=by rw[HTO.out.len];exact hml
   obtain⟨n1,n2,n3⟩:=HTO.out.name hml
   obtain⟨fuel,hrg,hrl⟩:=HTO.out.rows hmr
   have har:=(HTO.out.ar hml).1
   have hnl:m < (namesT t).length:=by simp[namesT];exact hml
   obtain⟨g,hgg,hg,hcn⟩:=HS.out.cell m hnl
   simp only[uab,Addr.mk.injEq,and_true] at hgg
   subst hgg
   have hnm:(namesT t)[m]=zik t m:=by unfold zik;rw[getD_lt _ hnl]
   rw[hnm] at hcn
   have HRW:Hid (Calls Tryz.prog 38 #[.pointer (some ⟨rb,0,none⟩),.string (zik t m)] wr fun e w'=>zxe ns (za0 t m) (zc4 R m) wr e w'):=by
    have q:=z3v wr rb t ns R pv nv rv tbs (zik t m) (HRE.out.below hbk) n1 (by rw[n2];exact hmr) fuel (zc4 R m) (by simpa only[n2] using hrg) (by rw[n2];omega)
    rw[n2] at q
    exact q
   have HHN:Hid (∀ W,SIn w.heap.size W (.slice (some ⟨gp,0,none⟩) t.length t.length) (namesT t)->W.cell? ⟨gp,m,none⟩=some (.string (zik t m))/\gp < W.heap.size):=fun W hq=>by
    obtain⟨g',e',l',c'⟩:=hq.cell m hnl
    simp only[uab,Addr.mk.injEq,and_true] at e'
    subst e'
    rw[hnm] at c'
    exact⟨c',l'⟩
   have HFS:Hid (zcl t ns R (m+1)=zcl t ns R m++(zc4 R m).map (zk1 t ns R m)):=zn4 t ns R m
   clear n1 n2 n3 hrg hnm hnl
   go_upto_region 7 with (first|(go_at_call 38;refine HRW.out.mono ?_;rintro e w2 ⟨gl,gls,hgl,rfl,hown2,hcop2,hb2⟩))
   have hB2:Below w.heap.size w w2:=zae hbk hb2 (uaa _)
   have hwl:=hbk.size
   have HL2:Hid (w2.ownsRow w.heap.size 30 1 (.slice (some ⟨gl,0,none⟩) (zc4 R m).length (zc4 R m).length) (zc4 R m).length (gls.map (zlt (za0 t m)))):=zbf hown2 hwl
   have HC2:Hid (gls.length=(zc4 R m).length/\∀ k,k < (zc4 R m).length->SIn w.heap.size w2 (zlt (za0 t m) (gls.getD k 0)) (za1 ns ((zc4 R m).getD k []) (za0 t m) 3)):=by
    have hgl2:gls.length=(zc4 R m).length:=by have:=hcop2.1;simpa using this
    refine⟨hgl2,fun k h1=>?_⟩
    have h2:k < gls.length:=by omega
    have q:=(hcop2.2.2 k (by simpa using h1) h2).2
    simp only[uaw,zqy,zdo] at q
    rw[getD_lt _ h1,getD_lt _ h2]
    exact q.low hwl
   have HS2:Hid (SIn w.heap.size w2 (.slice (some ⟨gp,0,none⟩) t.length t.length) (namesT t)):=HS.out.below hb2
   have HO2:Hid (zjq w.heap.size w2 (.slice ao (zcl t ns R m).length cap) (zcl t ns R m++((zc4 R m).take 0).map (zk1 t ns R m)) gs):=by
    have q:=HO.out.below hb2
    simpa [Hid] using q
   have HWH:Hid (∀ k,k < (zc4 R m).length->zu7 t ns R (zik t m) (za1 ns ((zc4 R m).getD k []) (za0 t m) 3)=((zk1 t ns R m ((zc4 R m).getD k [])).2.2,0)):=fun k h1=>by
    rw[getD_lt _ h1]
    exact HTO.out.when hml (uad h1)
   have HAH:Hid (∀ k,k < (zc4 R m).length->0 < k->zff (za1 ns ((zc4 R m).getD (k - 1) []) (za0 t m) 3) (za1 ns ((zc4 R m).getD k []) (za0 t m) 3)=true):=fun k h1 h0=>by
    rw[getD_lt _ h1,getD_lt _ (show k - 1 < (zc4 R m).length by omega)]
    exact HTO.out.sorted hml (by omega) h1
   have HFP:Hid (∀ k,k < (zc4 R m).length->zk1 t ns R m ((zc4 R m).getD k [])=(zik t m,za1 ns ((zc4 R m).getD k []) (za0 t m) 3,(zk1 t ns R m ((zc4 R m).getD k [])).2.2)):=fun k _=>rfl
   have HLN:Hid (((zc4 R m).map (zk1 t ns R m)).length=(zc4 R m).length):=show _=_ by simp
   have HMX:Hid ((zcl t ns R m).length+(zc4 R m).length<=10000000):=show(zcl t ns R m).length+(zc4 R m).length<=10000000 by
    have h1:(zcl t ns R (m+1)).length<=(zcl t ns R t.length).length:=by
     have:∀ d,(zcl t ns R (m+1)).length<=(zcl t ns R (m+1+d)).length:=by
      intro d
      induction d with
      |zero=>exact uaa _
      |succ d ih=>rw[show m+1+(d+1)=(m+1+d)+1 by omega,zn4 t ns R (m+1+d),uar];omega
     have:=this (t.length - (m+1))
     rwa [show m+1+(t.length - (m+1))=t.length by omega] at this
    rw[HFS.out,uar,HLN.out] at h1
    omega
   clear hown2 hcop2 hb2 HS HO HRW hcn hg
   generalize zk1 t ns R m=fP at *
   generalize zik t m=nm at *
   generalize zc4 R m=rs at *
   generalize za0 t m=ar at *
   generalize zcl t ns R m=fm at *
   go_wp2
   go_loopw [6,11,12,13,14] (fun v6 v11 _ _ _ wr=>∃(k:Nat) (gs':List Nat) (ao':Option Addr) (cap':Nat),k<=rs.length/\v11=.int .i64 k/\v6=.slice ao' (fm.length+k) cap'/\Below w.heap.size w wr/\Hid (SIn w.heap.size wr (.slice (some ⟨gp,0,none⟩) t.length t.length) (namesT t))/\Hid (wr.ownsRow w.heap.size 30 1 (.slice (some ⟨gl,0,none⟩) rs.length rs.length) rs.length (gls.map (zlt ar)))/\Hid (gls.length=rs.length/\∀ k,k < rs.length->SIn w.heap.size wr (zlt ar (gls.getD k 0)) (za1 ns (rs.getD k []) ar 3))/\Hid (zjq w.heap.size wr (.slice ao' (fm.length+k) cap') (fm++(rs.take k).map fP) gs')) (fun _ i _ _ _ _=>rs.length - (intOf i).toNat)
   case atStart=>exact⟨0,gs,ao,cap,uaj _,rfl,rfl,hB2,HS2,HL2,HC2,HO2⟩
   case round =>
    clear HS2 HL2 HC2 HO2 hB2
    obtain⟨k,gs',ao',cap',hk,rfl,rfl,hbk2,HS3,HL3,HC3,HO3⟩:=hrel
    by_cases hkl:k < rs.length
    ·have hki:(k:Int) < (rs.length:Int):=by omega
     obtain⟨cn,hgp3⟩:=HHN.out _ HS3.out
     have HLC:Hid (∀ W:World,W.ownsRow w.heap.size 30 1 (.slice (some ⟨gl,0,none⟩) rs.length rs.length) rs.length (gls.map (zlt ar))->∀ j,j < rs.length->W.cell? ⟨gl,j,none⟩=some (zlt ar (gls.getD j 0))/\gl < W.heap.size):=fun W hq j hj=>by
      obtain⟨g',cap'',hv,_,hg',hc'⟩:=zal hq (by omega)
      simp only[Value.slice.injEq,uab,Addr.mk.injEq,and_true] at hv
      have e:=hv.1
      subst e
      have hjg:j < gls.length:=by rw[HC3.out.1];exact hj
      exact⟨hc' j (zlt ar (gls.getD j 0)) (by simp[hjg,List.getD]),hg'⟩
     obtain⟨cl,hgl3⟩:=HLC.out _ HL3.out k hkl
     unfold zlt at cl
     have HSK:Hid (SIn w.heap.size wr (.slice (some ⟨gls.getD k 0,0,none⟩) ar ar) (za1 ns (rs.getD k []) ar 3)):=HC3.out.2 k hkl
     generalize gls.getD k 0=gk at cl HSK
     have HWN:Hid (∀ W,Below wr.heap.size wr W->Calls Tryz.prog 43 #[.pointer (some ⟨rb,0,none⟩),.string nm,.slice (some ⟨gk,0,none⟩) ar ar] W fun e w'=>e=.returned (.tuple #[.int .i64 ((fP (rs.getD k [])).2.2:Nat),.int .i64 0])/\Hid (Below wr.heap.size wr w')/\w'.cell? ⟨gp,m,none⟩=some (.string nm)/\w'.cell? ⟨gl,k,none⟩=some (.slice (some ⟨gk,0,none⟩) ar ar)):=fun W hb=>by
      have hq:=zae hbk2 hb (uaa _)
      have hs:=HSK.out.below hb
      refine(z7i W rb t ns R pv nv rv tbs nm (za1 ns (rs.getD k []) ar 3) _ (HRE.out.below hq) hs (by rw[zdo];omega)).mono ?_
      rintro e w' ⟨h1,h2⟩
      rw[HWH.out k hkl] at h1
      have hb3:=zae hb h2 (uaa _)
      exact⟨h1,hb3,(hb3.cell (p:=⟨gp,m,none⟩) hgp3).trans cn,(hb3.cell (p:=⟨gl,k,none⟩) hgl3).trans cl⟩
     have HFK:Hid (rs.take (k+1)=rs.take k++[rs.getD k []]):=show rs.take (k+1)=_ by rw[uae hkl,getD_lt _ hkl]
     have HAK:Hid (0 < k->zff (za1 ns (rs.getD (k - 1) []) ar 3) (za1 ns (rs.getD k []) ar 3)=true):=fun h0=>HAH.out k hkl h0
     have HFPK:Hid (fP (rs.getD k [])=(nm,za1 ns (rs.getD k []) ar 3,(fP (rs.getD k [])).2.2)):=HFP.out k hkl
     generalize hwk:(fP (rs.getD k [])).2.2=wk at *
     clear hwk
     go_upto_region 12 with fail
     go_cut [12,13] from 34 to 85 (fun s12 s13 wx=>s12=.int .i64 (wk:Nat)/\s13=.int .i64 0/\Hid (Below wr.heap.size wr wx))
     case first =>
      go_region_held3 (fun w'=>w'.cell? ⟨gp,m,none⟩=some (.string nm)/\w'.cell? ⟨gl,k,none⟩=some (.slice (some ⟨gk,0,none⟩) ar ar)) (first|go_keep|(go_simp;done)) (first|(go_at_call 43;refine(HWN.out _ (by exact(by go_grown))).mono ?_;rintro e w5 ⟨rfl,HB5,z0,z1⟩))
      go_wp2
      go_meet
      case rel=>exact⟨rfl,rfl,HB5⟩
     case rest =>
      obtain⟨rfl,rfl,HB6⟩:=hcut
      obtain⟨w6,rfl⟩:∃ w6,w6=wc:=⟨_,rfl⟩
      have hB6:Below w.heap.size w w6:=zae hbk2 HB6.out (uaa _)
      have HS6:Hid (SIn w.heap.size w6 (.slice (some ⟨gp,0,none⟩) t.length t.length) (namesT t)):=HS3.out.below HB6.out
      have HL6:Hid (w6.ownsRow w.heap.size 30 1 (.slice (some ⟨gl,0,none⟩) rs.length rs.length) rs.length (gls.map (zlt ar))):=zaa HL3.out HB6.out
      have HC6:Hid (gls.length=rs.length/\∀ k,k < rs.length->SIn w.heap.size w6 (zlt ar (gls.getD k 0)) (za1 ns (rs.getD k []) ar 3)):=⟨HC3.out.1,fun j hj=>(HC3.out.2 j hj).below HB6.out⟩
      have HO6:Hid (zjq w.heap.size w6 (.slice ao' (fm.length+k) cap') (fm++(rs.take k).map fP) gs'):=HO3.out.below HB6.out
      have HSK6:Hid (SIn w.heap.size w6 (.slice (some ⟨gk,0,none⟩) ar ar) (za1 ns (rs.getD k []) ar 3)):=HSK.out.below HB6.out
      have hwk0:(0:Int)<=(wk:Int):=by omega
      clear HWN HS3 HL3 HC3 HO3 HSK cn cl hgp3 hgl3 hbk2 HB6 wr
      go_upto_if 60 with fail
      go_cut [14] from 34 to 85 (fun _ wx=>Hid (Below w6.heap.size w6 wx))
      case first =>
       by_cases hk0:0 < k
       ·have hk0i:(0:Int) < (k:Int):=by omega
        obtain⟨cl0,hgl6⟩:=HLC.out _ HL6.out (k - 1) (by omega)
        obtain⟨cl1,_⟩:=HLC.out _ HL6.out k hkl
        have HSA:Hid (SIn w.heap.size w6 (zlt ar (gls.getD (k - 1) 0)) (za1 ns (rs.getD (k - 1) []) ar 3)):=HC6.out.2 (k - 1) (by omega)
        have HSB:Hid (SIn w.heap.size w6 (zlt ar (gls.getD k 0)) (za1 ns (rs.getD k []) ar 3)):=HC6.out.2 k hkl
        unfold zlt at cl0 cl1 HSA HSB
        generalize gls.getD (k - 1) 0=ga at *
        generalize gls.getD k 0=gb at *
        obtain⟨j,rfl⟩:∃ j,k=j+1:=⟨k - 1,by omega⟩
        have ejj:j+1 - 1=j:=by omega
        rw[ejj] at cl0 HSA HAK
        have HAD:Hid (∀ W,Below w6.heap.size w6 W->Calls Tryz.prog 87 #[.slice (some ⟨ga,0,none⟩) ar ar,.slice (some ⟨gb,0,none⟩) ar ar] W fun e w'=>e=.returned (.bool true)/\Hid (Below w6.heap.size w6 w')/\w'.cell? ⟨gl,j,none⟩=some (.slice (some ⟨ga,0,none⟩) ar ar)/\w'.cell? ⟨gl,j+1,none⟩=some (.slice (some ⟨gb,0,none⟩) ar ar)):=fun W hb=>by
         refine(zzp W _ _ _ _ (HSA.out.below hb) (HSB.out.below hb) (by rw[zdo];omega)).mono ?_
         rintro e w' ⟨h1,h2⟩
         rw[HAK.out hk0] at h1
         have hb3:=zae hb h2 (uaa _)
         exact⟨h1,hb3,(hb3.cell (p:=⟨gl,j,none⟩) hgl6).trans cl0,(hb3.cell (p:=⟨gl,j+1,none⟩) hgl6).trans cl1⟩
        have hwr1:IntKind.i64.wrap (((j:Int)+1) - 1)=(j:Int):=(IntWalk.i64_in _ (by omega)).trans (by omega)
        have hwr2:IntKind.i64.wrap (((j+1:Nat):Int) - 1)=(j:Int):=(IntWalk.i64_in _ (by omega)).trans (by omega)
        have hwr3:IntKind.i64.wrap (j:Int)=(j:Int):=IntWalk.i64_in _ (by omega)
        have hjl:(j:Int) < (rs.length:Int):=by omega
        have hj0:(0:Int)<=(j:Int)+1:=by omega
        have hj1:(j:Int)+1 < (rs.length:Int):=by omega
        have hj2:((j:Int)+1).toNat=j+1:=by omega
        have hwr4:IntKind.i64.wrap ((j:Int)+1)=(j:Int)+1:=IntWalk.i64_in _ (by omega)
        go_wp2
        go_region_held3 (fun w'=>w'.cell? ⟨gl,j,none⟩=some (.slice (some ⟨ga,0,none⟩) ar ar)/\w'.cell? ⟨gl,j+1,none⟩=some (.slice (some ⟨gb,0,none⟩) ar ar)) (first|go_keep|(go_simp;done)) (first|(go_at_call 87;refine(HAD.out _ (by exact(by go_grown))).mono ?_;rintro e w7 ⟨rfl,HB7,z0,z1⟩))
        go_wp2
        go_meet
        case rel=>exact HB7
       ·have hk0i:¬ (0:Int) < (k:Int):=by omega
        go_wp2
        go_meet
        case rel=>exact Below.refl _ _
      case rest =>
       have HB8:Hid (Below w6.heap.size w6 wc):=hcut
       clear hcut
       have hB8:Below w.heap.size w wc:=zae hB6 HB8.out (uaa _)
       have HS8:Hid (SIn w.heap.size wc (.slice (some ⟨gp,0,none⟩) t.length t.length) (namesT t)):=HS6.out.below HB8.out
       have HL8:Hid (wc.ownsRow w.heap.size 30 1 (.slice (some ⟨gl,0,none⟩) rs.length rs.length) rs.length (gls.map (zlt ar))):=zaa HL6.out HB8.out
       have HC8:Hid (gls.length=rs.length/\∀ k,k < rs.length->SIn w.heap.size wc (zlt ar (gls.getD k 0)) (za1 ns (rs.getD k []) ar 3)):=⟨HC6.out.1,fun j hj=>(HC6.out.2 j hj).below HB8.out⟩
       have HO8:Hid (zjq w.heap.size wc (.slice ao' (fm.length+k) cap') (fm++(rs.take k).map fP) gs'):=HO6.out.below HB8.out
       clear HS6 HL6 HC6 HO6 HSK6 HB8 hB6 w6
       obtain⟨cn8,hgp8⟩:=HHN.out _ HS8.out
       obtain⟨cl8,hgl8⟩:=HLC.out _ HL8.out k hkl
       have HSK8:Hid (SIn w.heap.size wc (zlt ar (gls.getD k 0)) (za1 ns (rs.getD k []) ar 3)):=HC8.out.2 k hkl
       unfold zlt at cl8 HSK8
       generalize gls.getD k 0=gb at cl8 HSK8
       have hown8:=HO8.out.own
       have HLF:Hid ((fm++(rs.take k).map fP).length=fm.length+k):=show _=_ by
        rw[uar,ua0,ua2,ubv (by omega)]
       rw[HLF.out] at hown8
       have hwl8:=hB8.size
       have hmx:=HMX.out
       have HPU:Hid (∀ w9 v',zas (Value.ownBlock (.slice ao' (fm.length+k) cap')).toList wc w9->w9.ownsRow w.heap.size 114 3 v' (fm.length+k+1) (zg8 (fm++(rs.take k).map fP) gs'++[.string nm,.slice (some ⟨gb,0,none⟩) ar ar,.int .i64 (wk:Nat)])->Below w.heap.size w w9/\Hid (SIn w.heap.size w9 (.slice (some ⟨gp,0,none⟩) t.length t.length) (namesT t))/\Hid (w9.ownsRow w.heap.size 30 1 (.slice (some ⟨gl,0,none⟩) rs.length rs.length) rs.length (gls.map (zlt ar)))/\Hid (gls.length=rs.length/\∀ k,k < rs.length->SIn w.heap.size w9 (zlt ar (gls.getD k 0)) (za1 ns (rs.getD k []) ar 3))/\Hid (zjq w.heap.size w9 v' (fm++(rs.take (k+1)).map fP) (gs'++[gb]))):=fun w9 v' hS ho=>by
        have hM:=OfT.own HO8.out.own
        refine⟨hB8.trans (hS.below (fun x hx=>zeg HO8.out.own (zcy hx)) hwl8),zaj HS8.out hS hM (by decide),zaj HL8.out hS hM (by decide),⟨HC8.out.1,fun j hj=>zaj (HC8.out.2 j hj) hS hM (by decide)⟩,?_⟩
        have hq:=HO8.out.push (f:=fP (rs.getD k [])) (g:=gb) (v':=v') hS (by
         rw[HLF.out,HFPK.out]
         unfold zph
         simp only[zdo]
         exact ho) (by
         rw[HFPK.out]
         simp only[zdo]
         exact HSK8.out)
        rw[Hid,HFK.out,ua8,← uba]
        exact hq
       go_upto_region 19 with fail
       go_region_law (first|(refine zfz wc _ [.string nm,.slice (some ⟨gb,0,none⟩) ar ar,.int .i64 (wk:Nat)] 114 rfl (.tmp 73) (.tmp 84) 99 rfl w.heap.size 114 i0 _ 3 48 Tryz.underlying99 hi hz0 hzs hzb rfl (by decide) (.slice ao' (fm.length+k) cap') (fm.length+k) (zg8 (fm++(rs.take k).map fP) gs') (by simp[Act.eval]) hown8 (by exact(by go_grown)) wc.heap.size 1 (by simp[Act.eval]) (by exact Box.drew (Box.newAt _ _ _ _ rfl)) rfl (by simp[Value.oneCell']) (by omega) (by omega) hwl8 ?_;intro v' w9 ho9 hS9 hat9 hk9 hz9';obtain⟨ao9,cap9,rfl⟩:=zac ho9))
       all_goals
        obtain⟨p1,p2,p3,p4,p5⟩:=HPU.out w9 _ hS9 ho9
        clear HPU hS9 ho9 hat9 hk9 hz9' HO8 HS8 HL8 HC8 hB8 hown8 cn8 cl8
        go_wp2
        go_roundw
        case rel=>exact⟨k+1,gs'++[gb],ao9,cap9,by omega,by go_num,by rfl,p1,p2,p3,p4,p5⟩
        case measure=>simp[intOf];omega
    ·obtain rfl:k=rs.length:=by omega
     have q:=HO3.out
     rw[ubw,← HFS.out] at q
     have HLE:Hid ((zcl t ns R (m+1)).length=fm.length+rs.length):=show _=_ by rw[HFS.out,uar,HLN.out]
     have HOQ:Hid (zjq w.heap.size wr (.slice ao' (fm.length+rs.length) cap') (zcl t ns R (m+1)) gs'):=q
     clear q HO3 HL3 HC3
     go_wp2
     exact⟨⟨m+1,gs',ao',cap',by omega,by go_num,by rw[HLE.out],hbk2,HS3,by rw[HLE.out];exact HOQ⟩,by simp[intOf];omega⟩
  ·obtain rfl:m=t.length:=by omega
   go_wp2
   go_ret2
   exact⟨_,gs,rfl,HO.out,hbk⟩
theorem zjd:∀(fs:List zg4) (gs:List Nat) (i c:Nat) (h:i < fs.length) (h2:i < gs.length),c < 3->(zg8 fs gs)[i * 3+c]?=(zph fs[i] gs[i])[c]?
 |f::fs,g::gs,0,c,_,_,hc=>by
  have e:zg8 (f::fs) (g::gs)=zph f g++zg8 fs gs:=by simp[zg8]
  rw[e,uca (by simp[zph];omega)]
  simp
 |f::fs,g::gs,i+1,c,h,h2,hc=>by
  have e:zg8 (f::fs) (g::gs)=zph f g++zg8 fs gs:=by simp[zg8]
  have l:(zph f g).length=3:=by simp[zph]
  rw[e,ua1 (by rw[l];omega),l,show(i+1) * 3+c - 3=i * 3+c by omega]
  exact zjd fs gs i c (by simpa using h) (by simpa using h2) hc
theorem zjq.facts{B:Nat}{w:World}{v:Value}{fs:List zg4}{gs:List Nat}(h:zjq B w v fs gs):znk w v fs:=by
 by_cases h0:0 < fs.length
 ·obtain⟨g,cap,hv,_,hg,hc⟩:=zal h.own h0
  refine⟨_,cap,hv,fun i hi=>?_⟩
  have hi2:i < gs.length:=by rw[h.len];exact hi
  refine⟨g,gs[i],B,rfl,hg,hc (i * 3) _ ?_,hc (i * 3+1) _ ?_,hc (i * 3+2) _ ?_,h.rows i hi hi2⟩
  ·rw[show i * 3=i * 3+0 from rfl,zjd _ _ _ _ hi hi2 (by omega)];rfl
  ·rw[zjd _ _ _ _ hi hi2 (by omega)];rfl
  ·rw[zjd _ _ _ _ hi hi2 (by omega)];rfl
 ·obtain⟨ao,cap,hv⟩:=zac h.own
  exact⟨ao,cap,hv,fun i hi=>absurd hi (by omega)⟩
theorem z9h{t:List zar}{ns:List ByteArray}{R:zbg}(h:Told t ns R):∀ f∈zcl t ns R t.length,f.2.1.length<=3:=by
 intro f hf
 unfold zcl at hf
 obtain⟨p,hp,hq⟩:=ubo.1 hf
 obtain⟨r,_,rfl⟩:=uai.1 hq
 simp only[zk1,zdo]
 exact(h.ar (ucg.1 hp)).1
end Go.Proofs.YteampbddflhngaaGreat
namespace Go.Proofs.YteampbddflhngaaGreat
open Go.RowKit
variable {t:List zar}{R:zbg}{ns:List ByteArray}
theorem Parts.told{cs:List zab}{t0:List zar}(h:Parts cs t0 t){D:DB}{k mr mx:Nat}(hi:zey (t.map (·.je)) (za4 (zaw cs).length) R)(ha:zc2 (t.map (·.je)) R=D)(hr:zjw (zjv t (zaw cs) none cs) mr mx=some (D,k))(hc:R.count<=1048576):Told t (zaw cs) R:=by
 have hp:∀ i (hi:i < cs.length),zin (za6 ((zd2 none i).getD [])) (zaf cs[i]).length:=fun i hi=>zqq (zga (h.many _ (uad hi)))
 have hset:=z3z h (zaw cs) none hp
 have hAr:arT t=arT t0:=by have:=ziu (t0.length+1) t0 cs;rw[h.jl] at this;exact this
 have hN:namesT t=namesT t0:=by
  have:=congrArg (List.map Prod.fst) hAr
  simpa [arT,namesT,Function.comp_def] using this
 obtain⟨_,hl,_⟩:=h.low
 have hf:=h.few
 have hargs:=z09 cs
 have hvals:(zaw cs).length<=500:=by
  have:=zkb cs []
  simp only[uch,ubl] at this
  show(cs.foldl zdd []).length<=500
  omega
 exact⟨by rw[hN];exact h.tab.rise,(zkx cs).1,hi,hset.small,by rw[ha];exact zv4 h none hp hr,hc,by omega,by omega⟩
theorem zta(h:Told t ns R)(f:zg4):f∈zcl t ns R t.length↔∃ p,p < t.length/\∃ r m,zc2 (t.map (·.je)) R p r=some m/\f=(zik t p,za1 ns r (za0 t p) 3,m):=by
 unfold zcl
 rw[ubo]
 have hmk:∀ p,p < t.length->∀ r m,Canon (za0 t p) r->(zc2 (t.map (·.je)) R p r=some m↔zdt (R.rows.getD p zad.zero) r=some m):=by
  intro p hp r m hc
  unfold zc2
  rw[if_pos ⟨by simpa using hp,hc⟩]
 constructor
 ·rintro⟨p,hp,hf⟩
  have hp:=ucg.1 hp
  obtain⟨r,hr,rfl⟩:=uai.1 hf
  obtain⟨q1,q2,_⟩:=h.row hp hr
  obtain⟨m,hm⟩:=ubf.1 q1
  refine⟨p,hp,r,m,hm,?_⟩
  unfold zk1
  rw[(hmk p hp r m q2).1 hm]
  rfl
 ·rintro⟨p,hp,r,m,hm,rfl⟩
  have hpr:p < R.rows.length:=by rw[h.len];exact hp
  have hin:InD (zc2 (t.map (·.je)) R) p r:=by unfold InD;rw[hm];rfl
  refine⟨p,ucg.2 hp,uai.2 ⟨r,?_,?_⟩⟩
  ·have:=(zjk h.inv h.small hpr r).2 hin
   unfold zc4
   rw[getD_lt _ hpr]
   exact this
  ·unfold zk1
   rw[(hmk p hp r m (zlw _ R p r hin).2).1 hm]
   rfl
theorem z9i(h:Told t ns R){f g:zg4}(hf:f∈zcl t ns R t.length)(hg:g∈zcl t ns R t.length)(e1:f.1=g.1)(e2:f.2.1=g.2.1):f=g:=by
 obtain⟨p,hp,r,m,hm,rfl⟩:=(zta h f).1 hf
 obtain⟨q,hq,s,n,hn,rfl⟩:=(zta h g).1 hg
 simp only at e1 e2
 have hpq:p=q:=by rw[← (h.name hp).2.1,← (h.name hq).2.1,e1]
 subst hpq
 have i1:InD (zc2 (t.map (·.je)) R) p r:=by unfold InD;rw[hm];rfl
 have i2:InD (zc2 (t.map (·.je)) R) p s:=by unfold InD;rw[hn];rfl
 have a1:=zmh h.nrise (h.ar hp).1 (zlw _ R p r i1).2 (h.inside p r i1)
 have a2:=zmh h.nrise (h.ar hp).1 (zlw _ R p s i2).2 (h.inside p s i2)
 have e:(t.map (·.je)).getD p 0=za0 t p:=rfl
 rw[e2,a2] at a1
 obtain rfl:=Option.some.inj a1
 rw[hm] at hn
 obtain rfl:=Option.some.inj hn
 rfl
theorem zmm:∀ a:List ByteArray,zff a a=false
 |[]=>rfl
 |x::a=>by unfold zff;rw[if_pos rfl];exact zmm a
theorem z8j(h:Told t ns R):(zcl t ns R t.length).Nodup:=by
 unfold zcl List.Nodup
 rw[List.pairwise_flatMap]
 refine⟨fun p hp=>?_,?_⟩
 ·have hp:=ucg.1 hp
  rw[ubx]
  intro i j hi hj hij e
  simp only[ua0] at hi hj
  simp only[uaw] at e
  have hs:=h.sorted hp hij hj
  have e':za1 ns (zc4 R p)[i] (za0 t p) 3=za1 ns (zc4 R p)[j] (za0 t p) 3:=congrArg (fun f:zg4=>f.2.1) e
  rw[e',zmm] at hs
  cases hs
 ·rw[ubx]
  intro i j hi hj hij x hx y hy e
  subst e
  simp only[List.length_range] at hi hj
  simp only[ub0] at hx hy
  obtain⟨r,_,hr⟩:=uai.1 hx
  obtain⟨s,_,hs⟩:=uai.1 hy
  have:zik t i=zik t j:=by
   have:=congrArg (fun f:zg4=>f.1) (hr.trans hs.symm)
   exact this
  have:=congrArg (zbd t) this
  rw[(h.name hi).2.1,(h.name hj).2.1] at this
  omega
theorem z88(h:Told t ns R):(zcl t ns R t.length).length<=10000000:=by
 have:(zcl t ns R t.length).length=R.count:=by
  unfold zcl
  rw[List.length_flatMap,h.inv.cnt]
  congr 1
  refine ubg (by simp[h.len]) fun i h1 h2=>?_
  have hi:i < R.rows.length:=by simpa using h2
  simp only[uaw,ub0,ua0,zc4]
  rw[getD_lt _ hi,((h.inv.tries i hi).1).cnt]
 have:=h.few.1
 omega
end Go.Proofs.YteampbddflhngaaGreat
