import Derived.Test.YteampbddflhngabGreatO41
import Derived.Test.YteampbddflhngabGreatO40
import Derived.Test.YteampbddflhngabGreatO09
import Derived.Deep.RegionLaw
import Derived.Test.YteampbddflhngabGreatO39
import Derived.Test.YteampbddflhngabGreatO07

namespace Go.Proofs.YteampbddflhngabGreat
set_option maxRecDepth 100000
set_option maxHeartbeats 4000000
open Go.RowKit
theorem Tryz.infoFactK:(Tryz.prog.info? 54).map (fun i=>(i.zero,i.size,i.bytes))=some (some (.agg #[.string ByteArray.empty,.slice none 0 0,.int .i64 0]),3,48):=by kernel_rfl
def zpw(f:zge)(g:Nat):List Value:=[.string f.1,.slice (some ⟨g,0,none⟩) f.2.1.length f.2.1.length,.int .i64 (f.2.2:Nat)]
def zhd(fs:List zge)(gs:List Nat):List Value:=(List.zipWith zpw fs gs).flatten
structure zj4 (B:Nat) (w:World) (v:Value) (fs:List zge) (gs:List Nat):Prop where
 len:gs.length=fs.length
 own:w.ownsRow B 54 3 v fs.length (zhd fs gs)
 rows:∀ i (h:i < fs.length) (h2:i < gs.length),SIn B w (.slice (some ⟨gs[i],0,none⟩) fs[i].2.1.length fs[i].2.1.length) fs[i].2.1
theorem zj4.below{B:Nat}{w w':World}{v:Value}{fs:List zge}{gs:List Nat}(h:zj4 B w v fs gs)(hb:Below w.heap.size w w'):zj4 B w' v fs gs:=⟨h.len,zaa h.own hb,fun i a b=>(h.rows i a b).below hb⟩
theorem zwd{fs:List zge}{gs:List Nat}(h:gs.length=fs.length)(f:zge)(g:Nat):zhd (fs++[f]) (gs++[g])=zhd fs gs++zpw f g:=by
 unfold zhd
 rw[List.zipWith_append h.symm]
 simp
theorem zj4.push{B:Nat}{w w3:World}{v v':Value}{fs:List zge}{gs:List Nat}(h:zj4 B w v fs gs){f:zge}{g:Nat}(hS:zat v.ownBlock.toList w w3)(ho:w3.ownsRow B 54 3 v' (fs.length+1) (zhd fs gs++zpw f g))(hs:SIn B w (.slice (some ⟨g,0,none⟩) f.2.1.length f.2.1.length) f.2.1):zj4 B w3 v' (fs++[f]) (gs++[g]):=by
 have hM:=OfT.own h.own
 refine⟨by simp[h.len],by rw[zwd h.len,List.length_append];exact ho,fun i a b=>?_⟩
 by_cases hi:i < fs.length
 ·have hi2:i < gs.length:=by rw[h.len];exact hi
  rw[List.getElem_append_left hi,List.getElem_append_left hi2]
  exact zaj (h.rows i hi hi2) hS hM (by decide)
 ·have e:i=fs.length:=by simp at a;omega
  subst e
  have e2:(gs++[g])[fs.length]=g:=by simp[h.len]
  rw[e2]
  simp only[List.getElem_append_right (Nat.le_refl _),Nat.sub_self,List.getElem_cons_zero]
  exact zaj hs hS hM (by decide)
theorem zok(t:List zan)(ns:List ByteArray)(R:zbh)(m:Nat):za6 t ns R (m+1)=za6 t ns R m++(zc4 R m).map (zld t ns R m):=by
 unfold za6
 rw[List.range_succ,List.flatMap_append]
 simp
theorem zqu{lo lp lq:Nat}(w:World)(pb rb:Nat)(cs:List zab)(t:List zan)(ns:List ByteArray)(R:zbh)(pv nv rv:Value)(tbs:List Nat)(hP:ziu lq w pb cs t)(hR:zsp lo lp w rb t ns R pv nv rv tbs)(hT:Told t ns R)(hmany:(za6 t ns R t.length).length<=10000000) :
  Calls Tryz.prog 25 #[.pointer (some ⟨pb,0,none⟩),.pointer (some ⟨rb,0,none⟩)] w fun e w'=>∃ v gs,e=.returned (.tuple #[v,.bool true])/\zj4 w.heap.size w' v (za6 t ns R t.length) gs/\Below w.heap.size w w':=by
 obtain⟨i0,hi,hz0,hzs,hzb⟩:=info_parts Tryz.infoFactK
 have HPR:Hid (Calls Tryz.prog 21 #[.pointer (some ⟨pb,0,none⟩)] w fun e w'=>∃ g,w.heap.size<=g/\e=.returned (.slice (some ⟨g,0,none⟩) t.length t.length)/\Hid (SIn w.heap.size w' (.slice (some ⟨g,0,none⟩) t.length t.length) (namesT t))/\Below w.heap.size w w'):=z0t w pb cs t hP hT.few.2.1
 have HRE:Hid (zsp lo lp w rb t ns R pv nv rv tbs):=hR
 have HTO:Hid (Told t ns R):=hT
 have htl:=hT.few.2.1
 clear hP hR hT
 go_enter Tryz.func25,Tryz.ntmps25
 go_wp2_with (first|(go_at_call 21;refine HPR.out.mono ?_;rintro e w1 ⟨gp,hgp,rfl,HS1,hb1⟩))
 go_loopw [6,8,9,10,11,12,13,14] (fun v6 v8 _ _ _ _ _ _ wr=>∃(m:Nat) (gs:List Nat) (ao:Option Addr) (cap:Nat),m<=t.length/\v8=.int .i64 m/\v6=.slice ao (za6 t ns R m).length cap/\Below w.heap.size w wr/\Hid (SIn w.heap.size wr (.slice (some ⟨gp,0,none⟩) t.length t.length) (namesT t))/\Hid (zj4 w.heap.size wr (.slice ao (za6 t ns R m).length cap) (za6 t ns R m) gs)) (fun _ i _ _ _ _ _ _ _=>t.length - (intOf i).toNat)
 case atStart=>exact⟨0,[],none,0,Nat.zero_le _,rfl,rfl,hb1,HS1,⟨rfl,World.ownsRow_nil _ _ _ _,fun i h=>by simp[za6] at h⟩⟩
 case round =>
  clear HS1
  obtain⟨m,gs,ao,cap,hm,rfl,rfl,hbk,HS,HO⟩:=hrel
  by_cases hml:m < t.length
  ·have hmi:(m:Int) < (t.length:Int):=by omega
   have hmr:m < R.rows.length:=by rw[HTO.out.len];exact hml
   obtain⟨n1,n2,n3⟩:=HTO.out.name hml
   obtain⟨fuel,hrg,hrl⟩:=HTO.out.rows hmr
   have har:=(HTO.out.ar hml).1
   have hnl:m < (namesT t).length:=by simp[namesT];exact hml
   obtain⟨g,hgg,hg,hcn⟩:=HS.out.cell m hnl
   simp only[Option.some.injEq,Addr.mk.injEq,and_true] at hgg
   subst hgg
   have hnm:(namesT t)[m]=zix t m:=by unfold zix;rw[getD_lt _ hnl]
   rw[hnm] at hcn
   have HRW:Hid (Calls Tryz.prog 28 #[.pointer (some ⟨rb,0,none⟩),.string (zix t m)] wr fun e w'=>zxv ns (za1 t m) (zc4 R m) wr e w'):=by
    have q:=z4z wr rb t ns R pv nv rv tbs (zix t m) (HRE.out.below hbk) n1 (by rw[n2];exact hmr) fuel (zc4 R m) (by simpa only[n2] using hrg) (by rw[n2];omega)
    rw[n2] at q
    exact q
   have HHN:Hid (∀ W,SIn w.heap.size W (.slice (some ⟨gp,0,none⟩) t.length t.length) (namesT t)->W.cell? ⟨gp,m,none⟩=some (.string (zix t m))/\gp < W.heap.size):=fun W hq=>by
    obtain⟨g',e',l',c'⟩:=hq.cell m hnl
    simp only[Option.some.injEq,Addr.mk.injEq,and_true] at e'
    subst e'
    rw[hnm] at c'
    exact⟨c',l'⟩
   have HFS:Hid (za6 t ns R (m+1)=za6 t ns R m++(zc4 R m).map (zld t ns R m)):=zok t ns R m
   clear n1 n2 n3 hrg hnm hnl
   go_upto_region 7 with (first|(go_at_call 28;refine HRW.out.mono ?_;rintro e w2 ⟨gl,gls,hgl,rfl,hown2,hcop2,hb2⟩))
   have hB2:Below w.heap.size w w2:=zae hbk hb2 (Nat.le_refl _)
   have hwl:=hbk.size
   have HL2:Hid (w2.ownsRow w.heap.size 38 1 (.slice (some ⟨gl,0,none⟩) (zc4 R m).length (zc4 R m).length) (zc4 R m).length (gls.map (zl7 (za1 t m)))):=zbi hown2 hwl
   have HC2:Hid (gls.length=(zc4 R m).length/\∀ k,k < (zc4 R m).length->SIn w.heap.size w2 (zl7 (za1 t m) (gls.getD k 0)) (za2 ns ((zc4 R m).getD k []) (za1 t m) 3)):=by
    have hgl2:gls.length=(zc4 R m).length:=by have:=hcop2.1;simpa using this
    refine⟨hgl2,fun k h1=>?_⟩
    have h2:k < gls.length:=by omega
    have q:=(hcop2.2.2 k (by simpa using h1) h2).2
    simp only[List.getElem_map,zre,zdt] at q
    rw[getD_lt _ h1,getD_lt _ h2]
    exact q.low hwl
   have HS2:Hid (SIn w.heap.size w2 (.slice (some ⟨gp,0,none⟩) t.length t.length) (namesT t)):=HS.out.below hb2
   have HO2:Hid (zj4 w.heap.size w2 (.slice ao (za6 t ns R m).length cap) (za6 t ns R m++((zc4 R m).take 0).map (zld t ns R m)) gs):=by
    have q:=HO.out.below hb2
    simpa [Hid] using q
   have HWH:Hid (∀ k,k < (zc4 R m).length->zvm t ns R (zix t m) (za2 ns ((zc4 R m).getD k []) (za1 t m) 3)=((zld t ns R m ((zc4 R m).getD k [])).2.2,0)):=fun k h1=>by
    rw[getD_lt _ h1]
    exact HTO.out.when hml (List.getElem_mem h1)
   have HAH:Hid (∀ k,k < (zc4 R m).length->0 < k->zfh (za2 ns ((zc4 R m).getD (k - 1) []) (za1 t m) 3) (za2 ns ((zc4 R m).getD k []) (za1 t m) 3)=true):=fun k h1 h0=>by
    rw[getD_lt _ h1,getD_lt _ (show k - 1 < (zc4 R m).length by omega)]
    exact HTO.out.sorted hml (by omega) h1
   have HFP:Hid (∀ k,k < (zc4 R m).length->zld t ns R m ((zc4 R m).getD k [])=(zix t m,za2 ns ((zc4 R m).getD k []) (za1 t m) 3,(zld t ns R m ((zc4 R m).getD k [])).2.2)):=fun k _=>rfl
   have HLN:Hid (((zc4 R m).map (zld t ns R m)).length=(zc4 R m).length):=show _=_ by simp
   have HMX:Hid ((za6 t ns R m).length+(zc4 R m).length<=10000000):=show(za6 t ns R m).length+(zc4 R m).length<=10000000 by
    have h1:(za6 t ns R (m+1)).length<=(za6 t ns R t.length).length:=by
     have:∀ d,(za6 t ns R (m+1)).length<=(za6 t ns R (m+1+d)).length:=by
      intro d
      induction d with
      |zero=>exact Nat.le_refl _
      |succ d ih=>rw[show m+1+(d+1)=(m+1+d)+1 by omega,zok t ns R (m+1+d),List.length_append];omega
     have:=this (t.length - (m+1))
     rwa [show m+1+(t.length - (m+1))=t.length by omega] at this
    rw[HFS.out,List.length_append,HLN.out] at h1
    omega
   clear hown2 hcop2 hb2 HS HO HRW hcn hg
   generalize zld t ns R m=fP at *
   generalize zix t m=nm at *
   generalize zc4 R m=rs at *
   generalize za1 t m=ar at *
   generalize za6 t ns R m=fm at *
   go_wp2
   go_loopw [6,11,12,13,14] (fun v6 v11 _ _ _ wr=>∃(k:Nat) (gs':List Nat) (ao':Option Addr) (cap':Nat),k<=rs.length/\v11=.int .i64 k/\v6=.slice ao' (fm.length+k) cap'/\Below w.heap.size w wr/\Hid (SIn w.heap.size wr (.slice (some ⟨gp,0,none⟩) t.length t.length) (namesT t))/\Hid (wr.ownsRow w.heap.size 38 1 (.slice (some ⟨gl,0,none⟩) rs.length rs.length) rs.length (gls.map (zl7 ar)))/\Hid (gls.length=rs.length/\∀ k,k < rs.length->SIn w.heap.size wr (zl7 ar (gls.getD k 0)) (za2 ns (rs.getD k []) ar 3))/\Hid (zj4 w.heap.size wr (.slice ao' (fm.length+k) cap') (fm++(rs.take k).map fP) gs')) (fun _ i _ _ _ _=>rs.length - (intOf i).toNat)
   case atStart=>exact⟨0,gs,ao,cap,Nat.zero_le _,rfl,rfl,hB2,HS2,HL2,HC2,HO2⟩
   case round =>
    clear HS2 HL2 HC2 HO2 hB2
    obtain⟨k,gs',ao',cap',hk,rfl,rfl,hbk2,HS3,HL3,HC3,HO3⟩:=hrel
    by_cases hkl:k < rs.length
    ·have hki:(k:Int) < (rs.length:Int):=by omega
     obtain⟨cn,hgp3⟩:=HHN.out _ HS3.out
     have HLC:Hid (∀ W:World,W.ownsRow w.heap.size 38 1 (.slice (some ⟨gl,0,none⟩) rs.length rs.length) rs.length (gls.map (zl7 ar))->∀ j,j < rs.length->W.cell? ⟨gl,j,none⟩=some (zl7 ar (gls.getD j 0))/\gl < W.heap.size):=fun W hq j hj=>by
      obtain⟨g',cap'',hv,_,hg',hc'⟩:=zal hq (by omega)
      simp only[Value.slice.injEq,Option.some.injEq,Addr.mk.injEq,and_true] at hv
      have e:=hv.1
      subst e
      have hjg:j < gls.length:=by rw[HC3.out.1];exact hj
      exact⟨hc' j (zl7 ar (gls.getD j 0)) (by simp[hjg,List.getD]),hg'⟩
     obtain⟨cl,hgl3⟩:=HLC.out _ HL3.out k hkl
     unfold zl7 at cl
     have HSK:Hid (SIn w.heap.size wr (.slice (some ⟨gls.getD k 0,0,none⟩) ar ar) (za2 ns (rs.getD k []) ar 3)):=HC3.out.2 k hkl
     generalize gls.getD k 0=gk at cl HSK
     have HWN:Hid (∀ W,Below wr.heap.size wr W->Calls Tryz.prog 31 #[.pointer (some ⟨rb,0,none⟩),.string nm,.slice (some ⟨gk,0,none⟩) ar ar] W fun e w'=>e=.returned (.tuple #[.int .i64 ((fP (rs.getD k [])).2.2:Nat),.int .i64 0])/\Hid (Below wr.heap.size wr w')/\w'.cell? ⟨gp,m,none⟩=some (.string nm)/\w'.cell? ⟨gl,k,none⟩=some (.slice (some ⟨gk,0,none⟩) ar ar)):=fun W hb=>by
      have hq:=zae hbk2 hb (Nat.le_refl _)
      have hs:=HSK.out.below hb
      refine(z8n W rb t ns R pv nv rv tbs nm (za2 ns (rs.getD k []) ar 3) _ (HRE.out.below hq) hs (by rw[zdt];omega)).mono ?_
      rintro e w' ⟨h1,h2⟩
      rw[HWH.out k hkl] at h1
      have hb3:=zae hb h2 (Nat.le_refl _)
      exact⟨h1,hb3,(hb3.cell (p:=⟨gp,m,none⟩) hgp3).trans cn,(hb3.cell (p:=⟨gl,k,none⟩) hgl3).trans cl⟩
     have HFK:Hid (rs.take (k+1)=rs.take k++[rs.getD k []]):=show rs.take (k+1)=_ by rw[List.take_succ_eq_append_getElem hkl,getD_lt _ hkl]
     have HAK:Hid (0 < k->zfh (za2 ns (rs.getD (k - 1) []) ar 3) (za2 ns (rs.getD k []) ar 3)=true):=fun h0=>HAH.out k hkl h0
     have HFPK:Hid (fP (rs.getD k [])=(nm,za2 ns (rs.getD k []) ar 3,(fP (rs.getD k [])).2.2)):=HFP.out k hkl
     generalize hwk:(fP (rs.getD k [])).2.2=wk at *
     clear hwk
     go_upto_region 12 with fail
     go_cut [12,13] from 34 to 85 (fun s12 s13 wx=>s12=.int .i64 (wk:Nat)/\s13=.int .i64 0/\Hid (Below wr.heap.size wr wx))
     case first =>
      go_region_held3 (fun w'=>w'.cell? ⟨gp,m,none⟩=some (.string nm)/\w'.cell? ⟨gl,k,none⟩=some (.slice (some ⟨gk,0,none⟩) ar ar)) (first|go_keep|(go_simp;done)) (first|(go_at_call 31;refine(HWN.out _ (by exact(by go_grown))).mono ?_;rintro e w5 ⟨rfl,HB5,z0,z1⟩))
      go_wp2
      go_meet
      case rel=>exact⟨rfl,rfl,HB5⟩
     case rest =>
      obtain⟨rfl,rfl,HB6⟩:=hcut
      obtain⟨w6,rfl⟩:∃ w6,w6=wc:=⟨_,rfl⟩
      have hB6:Below w.heap.size w w6:=zae hbk2 HB6.out (Nat.le_refl _)
      have HS6:Hid (SIn w.heap.size w6 (.slice (some ⟨gp,0,none⟩) t.length t.length) (namesT t)):=HS3.out.below HB6.out
      have HL6:Hid (w6.ownsRow w.heap.size 38 1 (.slice (some ⟨gl,0,none⟩) rs.length rs.length) rs.length (gls.map (zl7 ar))):=zaa HL3.out HB6.out
      have HC6:Hid (gls.length=rs.length/\∀ k,k < rs.length->SIn w.heap.size w6 (zl7 ar (gls.getD k 0)) (za2 ns (rs.getD k []) ar 3)):=⟨HC3.out.1,fun j hj=>(HC3.out.2 j hj).below HB6.out⟩
      have HO6:Hid (zj4 w.heap.size w6 (.slice ao' (fm.length+k) cap') (fm++(rs.take k).map fP) gs'):=HO3.out.below HB6.out
      have HSK6:Hid (SIn w.heap.size w6 (.slice (some ⟨gk,0,none⟩) ar ar) (za2 ns (rs.getD k []) ar 3)):=HSK.out.below HB6.out
      have hwk0:(0:Int)<=(wk:Int):=by omega
      clear HWN HS3 HL3 HC3 HO3 HSK cn cl hgp3 hgl3 hbk2 HB6 wr
      go_upto_if 60 with fail
      go_cut [14] from 34 to 85 (fun _ wx=>Hid (Below w6.heap.size w6 wx))
      case first =>
       by_cases hk0:0 < k
       ·have hk0i:(0:Int) < (k:Int):=by omega
        obtain⟨cl0,hgl6⟩:=HLC.out _ HL6.out (k - 1) (by omega)
        obtain⟨cl1,_⟩:=HLC.out _ HL6.out k hkl
        have HSA:Hid (SIn w.heap.size w6 (zl7 ar (gls.getD (k - 1) 0)) (za2 ns (rs.getD (k - 1) []) ar 3)):=HC6.out.2 (k - 1) (by omega)
        have HSB:Hid (SIn w.heap.size w6 (zl7 ar (gls.getD k 0)) (za2 ns (rs.getD k []) ar 3)):=HC6.out.2 k hkl
        unfold zl7 at cl0 cl1 HSA HSB
        generalize gls.getD (k - 1) 0=ga at *
        generalize gls.getD k 0=gb at *
        obtain⟨j,rfl⟩:∃ j,k=j+1:=⟨k - 1,by omega⟩
        have ejj:j+1 - 1=j:=by omega
        rw[ejj] at cl0 HSA HAK
        have HAD:Hid (∀ W,Below w6.heap.size w6 W->Calls Tryz.prog 49 #[.slice (some ⟨ga,0,none⟩) ar ar,.slice (some ⟨gb,0,none⟩) ar ar] W fun e w'=>e=.returned (.bool true)/\Hid (Below w6.heap.size w6 w')/\w'.cell? ⟨gl,j,none⟩=some (.slice (some ⟨ga,0,none⟩) ar ar)/\w'.cell? ⟨gl,j+1,none⟩=some (.slice (some ⟨gb,0,none⟩) ar ar)):=fun W hb=>by
         refine(z0b W _ _ _ _ (HSA.out.below hb) (HSB.out.below hb) (by rw[zdt];omega)).mono ?_
         rintro e w' ⟨h1,h2⟩
         rw[HAK.out hk0] at h1
         have hb3:=zae hb h2 (Nat.le_refl _)
         exact⟨h1,hb3,(hb3.cell (p:=⟨gl,j,none⟩) hgl6).trans cl0,(hb3.cell (p:=⟨gl,j+1,none⟩) hgl6).trans cl1⟩
        have hwr1:IntKind.i64.wrap (((j:Int)+1) - 1)=(j:Int):=(IntWalk.i64_in _ (by omega)).trans (by omega)
        have hwr2:IntKind.i64.wrap (((j+1:Nat):Int) - 1)=(j:Int):=(IntWalk.i64_in _ (by omega)).trans (by omega)
        have hwr3:IntKind.i64.wrap (j:Int)=(j:Int):=IntWalk.i64_in _ (by omega)
        have hjl:(j:Int) < (rs.length:Int):=by omega
        have hj0:(0:Int)<=(j:Int)+1:=by omega
        have hj1:(j:Int)+1 < (rs.length:Int):=by omega
        have hj2:((j:Int)+1).toNat=j+1:=by omega
        have hwr4:IntKind.i64.wrap ((j:Int)+1)=(j:Int)+1:=IntWalk.i64_in _ (by omega)
        go_wp2
        go_region_held3 (fun w'=>w'.cell? ⟨gl,j,none⟩=some (.slice (some ⟨ga,0,none⟩) ar ar)/\w'.cell? ⟨gl,j+1,none⟩=some (.slice (some ⟨gb,0,none⟩) ar ar)) (first|go_keep|(go_simp;done)) (first|(go_at_call 49;refine(HAD.out _ (by exact(by go_grown))).mono ?_;rintro e w7 ⟨rfl,HB7,z0,z1⟩))
        go_wp2
        go_meet
        case rel=>exact HB7
       ·have hk0i:¬ (0:Int) < (k:Int):=by omega
        go_wp2
        go_meet
        case rel=>exact Below.refl _ _
      case rest =>
       have HB8:Hid (Below w6.heap.size w6 wc):=hcut
       clear hcut
       have hB8:Below w.heap.size w wc:=zae hB6 HB8.out (Nat.le_refl _)
       have HS8:Hid (SIn w.heap.size wc (.slice (some ⟨gp,0,none⟩) t.length t.length) (namesT t)):=HS6.out.below HB8.out
       have HL8:Hid (wc.ownsRow w.heap.size 38 1 (.slice (some ⟨gl,0,none⟩) rs.length rs.length) rs.length (gls.map (zl7 ar))):=zaa HL6.out HB8.out
       have HC8:Hid (gls.length=rs.length/\∀ k,k < rs.length->SIn w.heap.size wc (zl7 ar (gls.getD k 0)) (za2 ns (rs.getD k []) ar 3)):=⟨HC6.out.1,fun j hj=>(HC6.out.2 j hj).below HB8.out⟩
       have HO8:Hid (zj4 w.heap.size wc (.slice ao' (fm.length+k) cap') (fm++(rs.take k).map fP) gs'):=HO6.out.below HB8.out
       clear HS6 HL6 HC6 HO6 HSK6 HB8 hB6 w6
       obtain⟨cn8,hgp8⟩:=HHN.out _ HS8.out
       obtain⟨cl8,hgl8⟩:=HLC.out _ HL8.out k hkl
       have HSK8:Hid (SIn w.heap.size wc (zl7 ar (gls.getD k 0)) (za2 ns (rs.getD k []) ar 3)):=HC8.out.2 k hkl
       unfold zl7 at cl8 HSK8
       generalize gls.getD k 0=gb at cl8 HSK8
       have hown8:=HO8.out.own
       have HLF:Hid ((fm++(rs.take k).map fP).length=fm.length+k):=show _=_ by
        rw[List.length_append,List.length_map,List.length_take,Nat.min_eq_left (by omega)]
       rw[HLF.out] at hown8
       have hwl8:=hB8.size
       have hmx:=HMX.out
       have HPU:Hid (∀ w9 v',zat (Value.ownBlock (.slice ao' (fm.length+k) cap')).toList wc w9->w9.ownsRow w.heap.size 54 3 v' (fm.length+k+1) (zhd (fm++(rs.take k).map fP) gs'++[.string nm,.slice (some ⟨gb,0,none⟩) ar ar,.int .i64 (wk:Nat)])->Below w.heap.size w w9/\Hid (SIn w.heap.size w9 (.slice (some ⟨gp,0,none⟩) t.length t.length) (namesT t))/\Hid (w9.ownsRow w.heap.size 38 1 (.slice (some ⟨gl,0,none⟩) rs.length rs.length) rs.length (gls.map (zl7 ar)))/\Hid (gls.length=rs.length/\∀ k,k < rs.length->SIn w.heap.size w9 (zl7 ar (gls.getD k 0)) (za2 ns (rs.getD k []) ar 3))/\Hid (zj4 w.heap.size w9 v' (fm++(rs.take (k+1)).map fP) (gs'++[gb]))):=fun w9 v' hS ho=>by
        have hM:=OfT.own HO8.out.own
        refine⟨hB8.trans (hS.below (fun x hx=>zel HO8.out.own (zcz hx)) hwl8),zaj HS8.out hS hM (by decide),zaj HL8.out hS hM (by decide),⟨HC8.out.1,fun j hj=>zaj (HC8.out.2 j hj) hS hM (by decide)⟩,?_⟩
        have hq:=HO8.out.push (f:=fP (rs.getD k [])) (g:=gb) (v':=v') hS (by
         rw[HLF.out,HFPK.out]
         unfold zpw
         simp only[zdt]
         exact ho) (by
         rw[HFPK.out]
         simp only[zdt]
         exact HSK8.out)
        rw[Hid,HFK.out,List.map_append,← List.append_assoc]
        exact hq
       go_upto_region 19 with fail
       go_region_law (first|(refine zf3 wc _ [.string nm,.slice (some ⟨gb,0,none⟩) ar ar,.int .i64 (wk:Nat)] 54 rfl (.tmp 73) (.tmp 84) 49 rfl w.heap.size 54 i0 _ 3 48 Tryz.underlying49 hi hz0 hzs hzb rfl (by decide) (.slice ao' (fm.length+k) cap') (fm.length+k) (zhd (fm++(rs.take k).map fP) gs') (by simp[Act.eval]) hown8 (by exact(by go_grown)) wc.heap.size 1 (by simp[Act.eval]) (by exact Box.drew (Box.newAt _ _ _ _ rfl)) rfl (by simp[Value.oneCell']) (by omega) (by omega) hwl8 ?_;intro v' w9 ho9 hS9 hat9 hk9 hz9';obtain⟨ao9,cap9,rfl⟩:=zac ho9))
       all_goals
        obtain⟨p1,p2,p3,p4,p5⟩:=HPU.out w9 _ hS9 ho9
        clear HPU hS9 ho9 hat9 hk9 hz9' HO8 HS8 HL8 HC8 hB8 hown8 cn8 cl8
        go_wp2
        go_roundw
        case rel=>exact⟨k+1,gs'++[gb],ao9,cap9,by omega,by go_num,by rfl,p1,p2,p3,p4,p5⟩
        case measure=>simp[intOf];omega
    ·obtain rfl:k=rs.length:=by omega
     have q:=HO3.out
     rw[List.take_length,← HFS.out] at q
     have HLE:Hid ((za6 t ns R (m+1)).length=fm.length+rs.length):=show _=_ by rw[HFS.out,List.length_append,HLN.out]
     have HOQ:Hid (zj4 w.heap.size wr (.slice ao' (fm.length+rs.length) cap') (za6 t ns R (m+1)) gs'):=q
     clear q HO3 HL3 HC3
     go_wp2
     exact⟨⟨m+1,gs',ao',cap',by omega,by go_num,by rw[HLE.out],hbk2,HS3,by rw[HLE.out];exact HOQ⟩,by simp[intOf];omega⟩
  ·obtain rfl:m=t.length:=by omega
   go_wp2
   go_ret2
   exact⟨_,gs,rfl,HO.out,hbk⟩
theorem zjs:∀(fs:List zge) (gs:List Nat) (i c:Nat) (h:i < fs.length) (h2:i < gs.length),c < 3->(zhd fs gs)[i * 3+c]?=(zpw fs[i] gs[i])[c]?
 |f::fs,g::gs,0,c,_,_,hc=>by
  have e:zhd (f::fs) (g::gs)=zpw f g++zhd fs gs:=by simp[zhd]
  rw[e,List.getElem?_append_left (by simp[zpw];omega)]
  simp
 |f::fs,g::gs,i+1,c,h,h2,hc=>by
  have e:zhd (f::fs) (g::gs)=zpw f g++zhd fs gs:=by simp[zhd]
  have l:(zpw f g).length=3:=by simp[zpw]
  rw[e,List.getElem?_append_right (by rw[l];omega),l,show(i+1) * 3+c - 3=i * 3+c by omega]
  exact zjs fs gs i c (by simpa using h) (by simpa using h2) hc
theorem zj4.facts{B:Nat}{w:World}{v:Value}{fs:List zge}{gs:List Nat}(h:zj4 B w v fs gs):zgv w v fs:=by
 by_cases h0:0 < fs.length
 ·obtain⟨g,cap,hv,_,hg,hc⟩:=zal h.own h0
  refine⟨_,cap,hv,fun i hi=>?_⟩
  have hi2:i < gs.length:=by rw[h.len];exact hi
  refine⟨g,gs[i],B,rfl,hg,hc (i * 3) _ ?_,hc (i * 3+1) _ ?_,hc (i * 3+2) _ ?_,h.rows i hi hi2⟩
  ·rw[show i * 3=i * 3+0 from rfl,zjs _ _ _ _ hi hi2 (by omega)];rfl
  ·rw[zjs _ _ _ _ hi hi2 (by omega)];rfl
  ·rw[zjs _ _ _ _ hi hi2 (by omega)];rfl
 ·obtain⟨ao,cap,hv⟩:=zac h.own
  exact⟨ao,cap,hv,fun i hi=>absurd hi (by omega)⟩
theorem ztn{t:List zan}{ns:List ByteArray}{R:zbh}(h:Told t ns R):∀ f∈za6 t ns R t.length,f.2.1.length<=3:=by
 intro f hf
 unfold za6 at hf
 obtain⟨p,hp,hq⟩:=List.mem_flatMap.1 hf
 obtain⟨r,_,rfl⟩:=List.mem_map.1 hq
 simp only[zld,zdt]
 exact(h.ar (List.mem_range.1 hp)).1
def zxq(fa fb:List zge):Prop:=fa.length=fb.length/\∀ i (_:i < fa.length),∃ k,∃ _:k < fb.length,zj8 fa[i].1 fa[i].2.1 fb=some k/\fb[k].2.2=fa[i].2.2
theorem z94{lo lp lq lo2 lp2 lq2:Nat}(w:World)(pb rb qb sb:Nat)(cs cs2:List zab)(t t2:List zan)(ns ns2:List ByteArray)(R R2:zbh)(pv nv rv pv2 nv2 rv2:Value)(tbs tbs2:List Nat)(hP:ziu lq w pb cs t)(hR:zsp lo lp w rb t ns R pv nv rv tbs)(hT:Told t ns R)(hmany:(za6 t ns R t.length).length<=10000000)(hP2:ziu lq2 w qb cs2 t2)(hR2:zsp lo2 lp2 w sb t2 ns2 R2 pv2 nv2 rv2 tbs2)(hT2:Told t2 ns2 R2)(hmany2:(za6 t2 ns2 R2 t2.length).length<=10000000)(hal:zxq (za6 t ns R t.length) (za6 t2 ns2 R2 t2.length))(hct:R.count=R2.count)(hrd:R.rounds=R2.rounds) :
  Calls Tryz.prog 35 #[.pointer (some ⟨pb,0,none⟩),.pointer (some ⟨rb,0,none⟩),.pointer (some ⟨qb,0,none⟩),.pointer (some ⟨sb,0,none⟩)] w fun e w'=>e=.returned (.bool true)/\Below w.heap.size w w':=by
 have H1:Hid (Calls Tryz.prog 25 #[.pointer (some ⟨pb,0,none⟩),.pointer (some ⟨rb,0,none⟩)] w fun e w'=>∃ ao cap,e=.returned (.tuple #[.slice ao (za6 t ns R t.length).length cap,.bool true])/\Hid (zgv w' (.slice ao (za6 t ns R t.length).length cap) (za6 t ns R t.length))/\Hid (Below w.heap.size w w')):=by
  refine(zqu w pb rb cs t ns R pv nv rv tbs hP hR hT hmany).mono ?_
  rintro e w' ⟨v,gs,h1,h2,h3⟩
  have h4:=h2.facts
  obtain⟨ao,cap,rfl,_⟩:=id h4
  exact⟨ao,cap,h1,h4,h3⟩
 have H2:Hid (∀ W,Below w.heap.size w W->Calls Tryz.prog 25 #[.pointer (some ⟨qb,0,none⟩),.pointer (some ⟨sb,0,none⟩)] W fun e w'=>∃ ao cap,e=.returned (.tuple #[.slice ao (za6 t2 ns2 R2 t2.length).length cap,.bool true])/\Hid (zgv w' (.slice ao (za6 t2 ns2 R2 t2.length).length cap) (za6 t2 ns2 R2 t2.length))/\Hid (Below W.heap.size W w')):=fun W hb=>by
  refine(zqu W qb sb cs2 t2 ns2 R2 pv2 nv2 rv2 tbs2 (hP2.below hb) (hR2.below hb) hT2 hmany2).mono ?_
  rintro e w' ⟨v,gs,h1,h2,h3⟩
  have h4:=h2.facts
  obtain⟨ao,cap,rfl,_⟩:=id h4
  exact⟨ao,cap,h1,h4,h3⟩
 have HC1:Hid (∀ W,Below w.heap.size w W->Calls Tryz.prog 36 #[.pointer (some ⟨rb,0,none⟩)] W fun e w'=>e=.returned (.tuple #[.int .i64 (R.count:Nat),.int .i64 (R.rounds:Nat),.int .i64 R.moves])/\Hid (Below w.heap.size w w')):=fun W hb=>by
  refine(zqf W rb pv nv rv R (hR.below hb).box).mono ?_
  rintro e w' ⟨h1,m,rfl⟩
  exact⟨h1,zav hb _⟩
 have HC2:Hid (∀ W,Below w.heap.size w W->Calls Tryz.prog 36 #[.pointer (some ⟨sb,0,none⟩)] W fun e w'=>e=.returned (.tuple #[.int .i64 (R.count:Nat),.int .i64 (R.rounds:Nat),.int .i64 R2.moves])/\Hid (Below w.heap.size w w')):=fun W hb=>by
  rw[hct,hrd]
  refine(zqf W sb pv2 nv2 rv2 R2 (hR2.below hb).box).mono ?_
  rintro e w' ⟨h1,m,rfl⟩
  exact⟨h1,zav hb _⟩
 have HL1:Hid (∀ f∈za6 t ns R t.length,f.2.1.length<=3):=ztn hT
 have HL2:Hid (∀ f∈za6 t2 ns2 R2 t2.length,f.2.1.length<=3):=ztn hT2
 clear hP hR hT hP2 hR2 hT2 hct hrd
 generalize za6 t ns R t.length=fa at *
 generalize za6 t2 ns2 R2 t2.length=fb at *
 have HAL:Hid (zxq fa fb):=hal
 have hlen:fb.length=fa.length:=hal.1.symm
 rw[hlen] at H2
 rw[hlen] at hmany2
 have HLE:Hid (fb.length=fa.length):=hlen
 clear hal hlen
 generalize R.count=rc at *
 generalize R.rounds=rr at *
 generalize R.moves=rm at *
 generalize R2.moves=rm2 at *
 go_enter Tryz.func35,Tryz.ntmps35
 go_wp2_with (first|(go_at_call 25;refine(H2.out _ hB1.out).mono ?_;rintro e w2 ⟨ao2,cap2,rfl,HF2,hB2⟩)|(go_at_call 25;refine H1.out.mono ?_;rintro e w1 ⟨ao1,cap1,rfl,HF1,hB1⟩))
 have hbw:Below w.heap.size w w2:=zae hB1.out hB2.out (Nat.le_refl _)
 have HA:Hid (zgv w2 (.slice ao1 fa.length cap1) fa):=HF1.out.below hB2.out
 have HB:Hid (zgv w2 (.slice ao2 fa.length cap2) fb):=HF2
 clear HF1 HF2 hB1 hB2 H1 H2
 go_loopw [13,14] (fun v13 _ wr=>∃ i:Nat,i<=fa.length/\v13=.int .i64 i/\Below w2.heap.size w2 wr) (fun v13 _ _=>fa.length - (intOf v13).toNat)
 case atStart=>exact⟨0,Nat.zero_le _,rfl,Below.refl _ _⟩
 case round =>
  obtain⟨i,hi,rfl,hbk⟩:=hrel
  by_cases hil:i < fa.length
  ·have hii:(i:Int) < (fa.length:Int):=by omega
   have HAr:Hid (zgv wr (.slice ao1 fa.length cap1) fa):=HA.out.below hbk
   have HBr:Hid (zgv wr (.slice ao2 fa.length cap2) fb):=HB.out.below hbk
   obtain⟨ao,cap,hv,hcells⟩:=id HAr.out
   simp only[Value.slice.injEq,true_and] at hv
   obtain⟨e1,e2⟩:=hv
   subst e1 e2
   obtain⟨g,gi,lo3,rfl,hg,c0,c1,c2,hS⟩:=hcells i hil
   obtain⟨k,hk,hfk,hwk⟩:=HAL.out.2 i hil
   have hk2:k < fa.length:=by rw[← HLE.out];exact hk
   have hki:(k:Int) < (fa.length:Int):=by omega
   have hk0:¬ (k:Int) < 0:=by omega
   have hk1:(0:Int)<=(k:Int):=by omega
   have hrl:=HL1.out _ (List.getElem_mem hil)
   have HFI:Hid (∀ W,Below wr.heap.size wr W->Calls Tryz.prog 26 #[.slice ao2 fa.length cap2,.string fa[i].1,.slice (some ⟨gi,0,none⟩) fa[i].2.1.length fa[i].2.1.length] W fun e w'=>e=.returned (.int .i64 k)/\Hid (Below wr.heap.size wr w')/\w'.cell? ⟨g,i * 3,none⟩=some (.string fa[i].1)/\w'.cell? ⟨g,i * 3+1,none⟩=some (.slice (some ⟨gi,0,none⟩) fa[i].2.1.length fa[i].2.1.length)):=fun W hb=>by
    refine(z3o W _ fb fa[i].1 _ fa[i].2.1 (HBr.out.below hb) (hS.below hb) (by rw[HLE.out];exact hmany2) (by omega) (fun f hf=>by have:=HL2.out f hf;omega)).mono ?_
    rintro e w' ⟨h1,h2⟩
    have hb3:=zae hb h2 (Nat.le_refl _)
    refine⟨?_,hb3,(hb3.cell (p:=⟨g,i * 3,none⟩) hg).trans c0,(hb3.cell (p:=⟨g,i * 3+1,none⟩) hg).trans c1⟩
    rw[h1,z2y,hfk]
   have HWK:Hid (fb[k].2.2=fa[i].2.2):=hwk
   clear hS hfk hwk
   generalize fa[i].2.1.length=rl at *
   generalize fa[i].1=fp at *
   generalize fa[i].2.2=fw at *
   go_upto_region 8 with fail
   go_cut [14] from 46 to 78 (fun s14 wx=>s14=.int .i64 k/\Hid (Below wr.heap.size wr wx))
   case first =>
    go_region_held3 (fun w'=>w'.cell? ⟨g,i * 3,none⟩=some (.string fp)/\w'.cell? ⟨g,i * 3+1,none⟩=some (.slice (some ⟨gi,0,none⟩) rl rl)) (first|go_keep|(go_simp;done)) (first|(go_at_call 26;refine(HFI.out _ (by exact(by go_grown))).mono ?_;rintro e w5 ⟨rfl,HB5,z0,z1⟩))
    go_wp2
    go_meet
    case rel=>exact⟨rfl,HB5⟩
   case rest =>
    obtain⟨rfl,HB6⟩:=hcut
    have hb6:Below w2.heap.size w2 wc:=zae hbk HB6.out (Nat.le_refl _)
    have y2:=(HB6.out.cell (p:=⟨g,i * 3+2,none⟩) hg).trans c2
    have hg6:g < wc.heap.size:=Nat.lt_of_lt_of_le hg HB6.out.size
    obtain⟨ao',cap',hv',hcells'⟩:=id (HBr.out.below HB6.out)
    simp only[Value.slice.injEq] at hv'
    obtain⟨e1,e0,e2⟩:=hv'
    clear e0
    subst e1 e2
    obtain⟨g2,gi2,lo4,rfl,hg2,_,_,x2,_⟩:=hcells' k hk
    rw[HWK.out] at x2
    clear c0 c1 c2 HFI HAr HBr hcells hcells' HWK
    go_wp2
    go_quiet (fail)
    go_wp2
    go_roundw
    case rel=>exact⟨i+1,by omega,by go_num,zav hb6 _⟩
    case measure=>simp[intOf];omega
  ·have hii:¬ (i:Int) < (fa.length:Int):=by omega
   have HBW:Hid (Below w.heap.size w wr):=zae hbw hbk (Nat.le_refl _)
   go_wp2_with (first|(go_at_call 36;refine(HC2.out _ HB7.out).mono ?_;rintro e w8 ⟨rfl,HB8⟩)|(go_at_call 36;refine(HC1.out _ HBW.out).mono ?_;rintro e w7 ⟨rfl,HB7⟩))
   go_ret
   exact⟨rfl,HB8.out⟩
theorem Parts.told{cs:List zab}{t0 t:List zan}(h:Parts cs t0 t){R:zbh}{D:DB}{k mr mx:Nat}(hi:ze1 (t.map (·.arity)) (za5 (zas cs).length) R)(ha:zct (t.map (·.arity)) R=D)(hr:zhc (zhp t (zas cs) none cs) mr mx=some (D,k))(hc:R.count<=1048576):Told t (zas cs) R:=by
 have hp:∀ i (hi:i < cs.length),zfv (zaz ((zc5 none i).getD [])) (zaf cs[i]).length:=fun i hi=>zh2 (zdw (h.many _ (List.getElem_mem hi)))
 have hset:=zyx h (zas cs) none hp
 have hAr:arT t=arT t0:=by have:=zi5 (t0.length+1) t0 cs;rw[h.strat] at this;exact this
 have hN:namesT t=namesT t0:=by
  have:=congrArg (List.map Prod.fst) hAr
  simpa [arT,namesT,Function.comp_def] using this
 obtain⟨_,hl,_⟩:=h.low
 have hf:=h.few
 have hargs:=z1z cs
 have hvals:(zas cs).length<=500:=by
  have:=zkp cs []
  simp only[List.length_nil,Nat.zero_add] at this
  show(cs.foldl zdg []).length<=500
  omega
 exact⟨by rw[hN];exact h.tab.rise,(zk9 cs).1,hi,hset.small,by rw[ha];exact zwj h none hp hr,hc,by omega,by omega⟩
theorem zle{t:List zan}{ns:List ByteArray}{R:zbh}(h:Told t ns R)(f:zge):f∈za6 t ns R t.length↔∃ p,p < t.length/\∃ r m,zct (t.map (·.arity)) R p r=some m/\f=(zix t p,za2 ns r (za1 t p) 3,m):=by
 unfold za6
 rw[List.mem_flatMap]
 have hmk:∀ p,p < t.length->∀ r m,Canon (za1 t p) r->(zct (t.map (·.arity)) R p r=some m↔zdz (R.rows.getD p zad.zero) r=some m):=by
  intro p hp r m hc
  unfold zct
  rw[if_pos ⟨by simpa using hp,hc⟩]
 constructor
 ·rintro⟨p,hp,hf⟩
  have hp:=List.mem_range.1 hp
  obtain⟨r,hr,rfl⟩:=List.mem_map.1 hf
  obtain⟨q1,q2,_⟩:=h.row hp hr
  obtain⟨m,hm⟩:=Option.isSome_iff_exists.1 q1
  refine⟨p,hp,r,m,hm,?_⟩
  unfold zld
  rw[(hmk p hp r m q2).1 hm]
  rfl
 ·rintro⟨p,hp,r,m,hm,rfl⟩
  have hpr:p < R.rows.length:=by rw[h.len];exact hp
  have hin:InD (zct (t.map (·.arity)) R) p r:=by unfold InD;rw[hm];rfl
  refine⟨p,List.mem_range.2 hp,List.mem_map.2 ⟨r,?_,?_⟩⟩
  ·have:=(zjz h.inv h.small hpr r).2 hin
   unfold zc4
   rw[getD_lt _ hpr]
   exact this
  ·unfold zld
   rw[(hmk p hp r m (zma _ R p r hin).2).1 hm]
   rfl
theorem z2w{t:List zan}{ns:List ByteArray}{R:zbh}(h:Told t ns R){f g:zge}(hf:f∈za6 t ns R t.length)(hg:g∈za6 t ns R t.length)(e1:f.1=g.1)(e2:f.2.1=g.2.1):f=g:=by
 obtain⟨p,hp,r,m,hm,rfl⟩:=(zle h f).1 hf
 obtain⟨q,hq,s,n,hn,rfl⟩:=(zle h g).1 hg
 simp only at e1 e2
 have hpq:p=q:=by rw[← (h.name hp).2.1,← (h.name hq).2.1,e1]
 subst hpq
 have i1:InD (zct (t.map (·.arity)) R) p r:=by unfold InD;rw[hm];rfl
 have i2:InD (zct (t.map (·.arity)) R) p s:=by unfold InD;rw[hn];rfl
 have a1:=zmu h.nrise (h.ar hp).1 (zma _ R p r i1).2 (h.inside p r i1)
 have a2:=zmu h.nrise (h.ar hp).1 (zma _ R p s i2).2 (h.inside p s i2)
 have e:(t.map (·.arity)).getD p 0=za1 t p:=rfl
 rw[e2,a2] at a1
 obtain rfl:=Option.some.inj a1
 rw[hm] at hn
 obtain rfl:=Option.some.inj hn
 rfl
theorem zmz:∀ a:List ByteArray,zfh a a=false
 |[]=>rfl
 |x::a=>by unfold zfh;rw[if_pos rfl];exact zmz a
theorem zol{t:List zan}{ns:List ByteArray}{R:zbh}(h:Told t ns R):(za6 t ns R t.length).Nodup:=by
 unfold za6 List.Nodup
 rw[List.pairwise_flatMap]
 refine⟨fun p hp=>?_,?_⟩
 ·have hp:=List.mem_range.1 hp
  rw[List.pairwise_iff_getElem]
  intro i j hi hj hij e
  simp only[List.length_map] at hi hj
  simp only[List.getElem_map] at e
  have hs:=h.sorted hp hij hj
  have e':za2 ns (zc4 R p)[i] (za1 t p) 3=za2 ns (zc4 R p)[j] (za1 t p) 3:=congrArg (fun f:zge=>f.2.1) e
  rw[e',zmz] at hs
  cases hs
 ·rw[List.pairwise_iff_getElem]
  intro i j hi hj hij x hx y hy e
  subst e
  simp only[List.length_range] at hi hj
  simp only[List.getElem_range] at hx hy
  obtain⟨r,_,hr⟩:=List.mem_map.1 hx
  obtain⟨s,_,hs⟩:=List.mem_map.1 hy
  have:zix t i=zix t j:=by
   have:=congrArg (fun f:zge=>f.1) (hr.trans hs.symm)
   exact this
  have:=congrArg (zbf t) this
  rw[(h.name hi).2.1,(h.name hj).2.1] at this
  omega
theorem z2x{fs:List zge}{f:zge}(h:f∈fs):∃ k,∃ hk:k < fs.length,zj8 f.1 f.2.1 fs=some k/\fs[k].1=f.1/\fs[k].2.1=f.2.1:=by
 induction fs with
 |nil=>cases h
 |cons g fs ih =>
  unfold zj8
  by_cases hq:g.1=f.1/\g.2.1=f.2.1
  ·rw[if_pos hq]
   exact⟨0,by simp,rfl,hq.1,hq.2⟩
  ·rw[if_neg hq]
   have hm:f∈fs:=by
    rcases List.mem_cons.1 h with rfl|hm
    ·exact absurd ⟨rfl,rfl⟩ hq
    ·exact hm
   obtain⟨k,hk,h1,h2,h3⟩:=ih hm
   exact⟨k+1,by simp;omega,by rw[h1];rfl,h2,h3⟩
theorem z6h{t t2:List zan}{ns ns2:List ByteArray}{R R2:zbh}(h:Told t ns R)(h2:Told t2 ns2 R2)(hm:∀ f,f∈za6 t ns R t.length↔f∈za6 t2 ns2 R2 t2.length):zxq (za6 t ns R t.length) (za6 t2 ns2 R2 t2.length):=by
 refine⟨Nat.le_antisymm (zgu (zol h) fun f hf=>(hm f).1 hf) (zgu (zol h2) fun f hf=>(hm f).2 hf),fun i hi=>?_⟩
 have hf:=(hm _).1 (List.getElem_mem hi)
 obtain⟨k,hk,h3,h4,h5⟩:=z2x hf
 exact⟨k,hk,h3,by rw[z2w h2 (List.getElem_mem hk) hf h4 h5]⟩
theorem z92{t:List zan}{ns:List ByteArray}{R:zbh}(h:Told t ns R):(za6 t ns R t.length).length<=10000000:=by
 have:(za6 t ns R t.length).length=R.count:=by
  unfold za6
  rw[List.length_flatMap,h.inv.cnt]
  congr 1
  refine List.ext_getElem (by simp[h.len]) fun i h1 h2=>?_
  have hi:i < R.rows.length:=by simpa using h2
  simp only[List.getElem_map,List.getElem_range,List.length_map,zc4]
  rw[getD_lt _ hi,((h.inv.tries i hi).1).cnt]
 have:=h.few.1
 omega
theorem z9z{t:List zan}{ns:List ByteArray}{R R2:zbh}(h:Told t ns R)(h2:Told t ns R2)(e:zct (t.map (·.arity)) R=zct (t.map (·.arity)) R2):zxq (za6 t ns R t.length) (za6 t ns R2 t.length):=z6h h h2 fun f=>by rw[zle h,zle h2,e]
theorem Parts.runos{cs:List zab}{t0 t:List zan}(h:Parts cs t0 t){os:Option (List (Option (List Int)))}(hb:zei cs os=true):z6b cs t os/\zy7 (zhp t (zas cs) os cs):=by
 have hset:zy7 (zhp t (zas cs) os cs):=zyx h _ os (zjf hb fun c hc=>zdw (h.many c hc))
 obtain⟨hk,_⟩:=h.runok
 have ho:(os.getD []).length<=cs.length/\∀ o∈os.getD [],(o.getD []).length<=5:=by
  cases os with
  |none=>simp
  |some l =>
   unfold zei at hb
   simp only[Bool.and_eq_true,beq_iff_eq,List.all_eq_true] at hb
   refine⟨by simp;omega,fun o ho=>?_⟩
   obtain⟨i,hi,rfl⟩:=List.mem_iff_getElem.1 (show o∈l from ho)
   have:=hb.2 (cs[i]'(by omega),l[i]) (by
    rw[List.mem_iff_getElem]
    exact⟨i,by simp;omega,by simp⟩)
   cases hq:l[i] with
   |none=>simp
   |some o =>
    rw[hq] at this
    simp only[zdm,Bool.and_eq_true,beq_iff_eq] at this
    have h5:=zdw (h.many cs[i] (List.getElem_mem (by omega)))
    simp only[Option.getD_some]
    omega
 have hl:=hk.len
 refine⟨⟨hk.len,hk.names,hk.fine,hk.sums,hk.few,hk.vals,hk.strat,by omega,fun o h=>by have:=ho.2 o h;omega,fun _ o h=>by have:=ho.2 o h;omega,fun _=>?_⟩,hset⟩
 have hs:=hk.set rfl
 exact⟨fun r hr=>⟨fun l hl=>((hset.rules.rules r hr).plain l hl).1,fun l hl=>⟨((hset.rules.rules r hr).nots l hl).1,hset.rules.apart r hr r hr rfl l hl⟩⟩,hs.many,hs.small,hs.rows,hs.facts,hs.width⟩
theorem yar{lp:Nat}(w:World)(pb:Nat){cs:List zab}{t0 t:List zan}(hP:ziu lp w pb cs t)(h:Parts cs t0 t)(hlp:lp<=w.heap.size)(ov:Value)(os:Option (List (Option (List Int))))(ho:zha w ov os)(hb:zei cs os=true)(mr mx:Nat)(h1:mr<=1048576)(h2:mx<=1048576) :
  Calls Tryz.prog 24 #[.pointer (some ⟨pb,0,none⟩),ov,.int .i64 mr,.int .i64 mx] w fun e w'=>z8q lp t (zas cs) (zhc (zhp t (zas cs) none cs) mr mx) w e w':=by
 obtain⟨hk,hset⟩:=h.runos hb
 have h5:∀ c∈cs,(zaf c).length<=5:=fun c hc=>zdw (h.many c hc)
 rw[zvw h (zas cs) none os (zjf rfl h5) (zjf hb h5)]
 obtain⟨N,hN⟩:=zyv hset (mr:=mr) (mx:=mx) h1
 obtain⟨res,r1,r2,r3⟩:=hN N (Nat.le_refl _)
 refine(zyq w pb cs t ov os mr mx N res hP ho hk hb h1 h2 hlp r1).mono ?_
 intro e w' hres
 cases res with
 |none=>rw[r2 rfl];exact hres
 |some R =>
  obtain⟨q1,q2,q3⟩:=r3 R rfl
  obtain⟨rb,pv,nv,rv,tbs,s1,s2,s3,s4⟩:=hres
  rw[q3]
  exact⟨R,rb,pv,nv,rv,tbs,s1,s2,s3,q1,rfl,rfl,q1.card hset.small,by omega,s4⟩
set_option maxHeartbeats 2000000
def zo7(c:Int)(n:Nat):Nat:=if c < 0 then(-(c+1)).toNat % n else c.toNat % n
theorem z7v(c:Int){n:Nat}(hn:0 < n):zo7 c n < n:=by unfold zo7;split <;> exact Nat.mod_lt _ hn
theorem z3q(w:World)(c:Int)(n:Nat)(hn:0 < n)(hn2:n<=281474976710656)(hc:-9223372036854775808<=c/\c<=9223372036854775807) :
  Calls Tryz.prog 14 #[.int .i64 c,.int .i64 n] w fun e w'=>e=.returned (.int .i64 (zo7 c n:Nat))/\w'=w:=by
 obtain⟨hc1,hc2⟩:=hc
 by_cases h0:c < 0
 ·have e:-(c+1).tmod (n:Int)=((zo7 c n:Nat):Int):=by
   unfold zo7
   rw[if_pos h0,← Int.neg_tmod,Int.tmod_eq_emod_of_nonneg (by omega),Int.natCast_emod,Int.toNat_of_nonneg (by omega)]
  have HE:Hid (-(c+1).tmod (n:Int)=((zo7 c n:Nat):Int)):=e
  clear e
  generalize zo7 c n=pk at *
  go_enter Tryz.func14,Tryz.ntmps14
  go_wp2
  exact bodyPost_ret (v:=.int .i64 (-(c+1).tmod (n:Int))) (by simp[results,Tryz.results14,go_sem]) rfl ⟨by rw[HE.out],rfl⟩
 ·have e:c % (n:Int)=((zo7 c n:Nat):Int):=by unfold zo7;rw[if_neg h0,Int.natCast_emod,Int.toNat_of_nonneg (by omega)]
  have HE:Hid (c % (n:Int)=((zo7 c n:Nat):Int)):=e
  clear e
  generalize zo7 c n=pk at *
  go_enter Tryz.func14,Tryz.ntmps14
  go_wp2
  exact bodyPost_ret (v:=.int .i64 (c % (n:Int))) (by simp[results,Tryz.results14,go_sem]) rfl ⟨by rw[HE.out],rfl⟩
end Go.Proofs.YteampbddflhngabGreat
