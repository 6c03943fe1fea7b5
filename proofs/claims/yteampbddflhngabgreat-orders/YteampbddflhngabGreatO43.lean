import Derived.Test.YteampbddflhngabGreatO42
import Derived.Test.YteampbddflhngabGreatO04
import Derived.Test.YteampbddflhngabGreatO08
import Derived.Deep.OwnRows

namespace Go.Proofs.YteampbddflhngabGreat
set_option maxRecDepth 100000
set_option maxHeartbeats 4000000
open Go.RowKit
def zkc(l:List Nat):Array Value:=(l.map ivN).toArray
theorem zjq(l:List Nat)(k v:Nat):(zkc l).setIfInBounds k (.int .i64 (v:Int))=zkc (l.set k v):=by simp[zkc,List.map_set,ivN]
theorem zv6(n:Nat):madeCells #[.int .i64 0] n=zkc (List.replicate n 0):=by
 unfold madeCells zkc
 apply Array.ext
 ·simp
 ·intro i h1 h2
  simp[ivN,Nat.mod_one]
theorem zmg{l:List Nat}{k:Nat}(h:k < l.length):(zkc l)[k]?=some (.int .i64 (l[k]:Nat)):=by simp[zkc,h,ivN]
theorem z6w{l:List Nat}{i:Nat}(h:i < l.length):l.getD i 0=l[i]:=by simp[List.getD,h]
def zva(l:List Nat)(i j:Nat):List Nat:=(l.set i (l.getD j 0)).set j (l.getD i 0)
theorem z5j(l:List Nat)(i j:Nat):(zva l i j).length=l.length:=by simp[zva]
theorem z1a{l:List Nat}{i j:Nat}(hi:i < l.length)(hj:j < l.length):(zva l i j).Perm l:=by
 have h:=Array.swap_perm (xs:=l.toArray) (i:=i) (j:=j) (by simpa using hi) (by simpa using hj)
 have e:(l.toArray.swap i j (by simpa using hi) (by simpa using hj)).toList=zva l i j:=by
  simp[zva,Array.swap,hi,hj,List.getD]
 have:=h.toList
 rw[e] at this
 simpa using this
theorem z1b{c:Int}(n:Nat)(hc:-9223372036854775808<=c/\c<=9223372036854775807)(hn:2<=n):-9223372036854775808<=c.tdiv (n:Int)/\c.tdiv (n:Int)<=9223372036854775807:=by
 have h1:(c.tdiv (n:Int)).natAbs<=c.natAbs / 2:=by
  rw[Int.natAbs_tdiv,Int.natAbs_natCast]
  exact Nat.div_le_div_left hn (by omega)
 omega
theorem z95(w:World)(c:Int)(n:Nat)(hn:n<=1000)(hc:-9223372036854775808<=c/\c<=9223372036854775807) :
  Calls Tryz.prog 34 #[.int .i64 c,.int .i64 n] w fun e w'=>e=.returned (.slice (some ⟨w.heap.size,0,none⟩) n n)/\∃ l:List Nat,l.length=n/\l.Perm (List.range n)/\Box w' w.heap.size (zkc l) 3/\Below w.heap.size w w':=by
 have hmk:=fun W:World=>run_make_row' (P:=Tryz.prog) (w:=W) 70 3 (.int .i64 0) 8 Tryz.underlying70 Tryz.infoInt rfl .i64 .i64 n (by omega) (by omega)
 have HPK:Hid (∀ W (c:Int) (m:Nat),-9223372036854775808<=c/\c<=9223372036854775807->0 < m->m<=2000->Calls Tryz.prog 14 #[.int .i64 c,.int .i64 m] W fun e w'=>∃ j,e=.returned (.int .i64 (j:Nat))/\j < m/\w'=W):=fun W c m h1 h2 h3=>(z3q W c m h2 (by omega) h1).mono fun e w' ⟨q1,q2⟩=>⟨_,q1,z7v c h2,q2⟩
 have HDV:Hid (∀ m:Nat,2<=m->-9223372036854775808<=c.tdiv (m:Int)/\c.tdiv (m:Int)<=9223372036854775807):=fun m hm=>z1b m hc hm
 go_enter Tryz.func34,Tryz.ntmps34
 go_wp2
 go_loopw [6] (fun v6 wr=>∃(k:Nat) (l:List Nat),k<=n/\v6=.int .i64 k/\l.length=n/\Hid (∀ j (h:j < l.length),j < k->l[j]=j)/\Box wr w.heap.size (zkc l) 3/\Below w.heap.size w wr) (fun v6 _=>n - (intOf v6).toNat)
 case atStart =>
  refine⟨0,List.replicate n 0,Nat.zero_le _,rfl,by simp,fun j _ h=>by omega,?_,(by go_grown)⟩
  rw[← zv6]
  exact Box.new _ _ _
 case round =>
  obtain⟨k,l,hk,rfl,hll,HL,hbx,hbk⟩:=hrel
  obtain⟨hcl,hfr⟩:=hbx.rules
  have hbl:=hbx.lt
  by_cases hkl:k < n
  ·have hki:(k:Int) < (n:Int):=by omega
   have hck:=hcl k
   rw[zmg (by omega)] at hck
   have hset:=hbx.set k (.int .i64 (k:Nat))
   rw[zjq] at hset
   clear hcl
   go_wp2
   go_roundw
   case rel=>exact⟨k+1,l.set k k,by omega,by go_num,by simpa using hll,fun j h1 h2=>(by
    rw[List.getElem_set]
    split
    ·assumption
    ·exact HL.out j (by simpa using h1) (by omega)),hset,hbk.setCell (by simp) _⟩
   case measure=>simp[intOf];omega
  ·have hki:¬ (k:Int) < (n:Int):=by omega
   have HP:Hid (l.Perm (List.range n)):=by
    have e:l=List.range n:=List.ext_getElem (by simp[hll]) fun i h1 h2=>by
     rw[HL.out i h1 (by omega)];simp
    rw[e]
    exact List.Perm.refl _
   clear HL hcl hfr
   go_wp2
   go_loopw [7,8,9] (fun v7 _ _ wr=>∃(z:Int) (l:List Nat),-1<=z/\z < n/\v7=.int .i64 z/\l.length=n/\Hid (l.Perm (List.range n))/\Box wr w.heap.size (zkc l) 3/\Below w.heap.size w wr) (fun v7 _ _ _=>(intOf v7).toNat)
   case atStart=>exact⟨(n:Int) - 1,l,by omega,by omega,by go_num,hll,HP,hbx,hbk⟩
   case round =>
    clear HP hbx hbk hll hbl
    obtain⟨z,l,hz1,hz2,rfl,hll,HP,hbx,hbk⟩:=hrel
    by_cases hz0:0 < z
    ·obtain⟨i,rfl⟩:=Int.eq_ofNat_of_zero_le (show 0<=z by omega)
     have hi:i < n:=by omega
     obtain⟨hcl,hfr⟩:=hbx.rules
     have hbl:=hbx.lt
     have hz0n:0 < i:=by omega
     have hdv:=HDV.out (i+1) (by omega)
     have hp1:=HPK.out wr _ (i+1) hdv (by omega) (by omega)
     rw[show((i+1:Nat):Int)=(i:Int)+1 by omega] at hdv hp1
     obtain⟨hdv1,hdv2⟩:=hdv
     have HP1:Hid (Calls Tryz.prog 14 #[.int .i64 (c.tdiv ((i:Int)+1)),.int .i64 ((i:Int)+1)] wr fun e w'=>∃ j,e=.returned (.int .i64 (j:Nat))/\j < i+1/\w'=wr):=hp1
     clear hp1
     have HCL:Hid (∀ j,j < n->∃ x:Nat,wr.cell? ⟨w.heap.size,j,none⟩=some (.int .i64 x)/\Hid (x=l.getD j 0)/\∃ y:Nat,(wr.setCell ⟨w.heap.size,i,none⟩ (.int .i64 x)).cell? ⟨w.heap.size,j,none⟩=some (.int .i64 y)):=fun j h=>by
      have hjl:j < l.length:=by omega
      refine⟨l[j],by rw[hcl j,zmg hjl],by rw[Hid,z6w hjl],(l.set i l[j])[j]'(by simpa using hjl),?_⟩
      have h1:=(hbx.set i (.int .i64 (l[j]:Nat))).rules.1 j
      rw[zjq,zmg (by simpa using hjl)] at h1
      exact h1
     obtain⟨xi,hci,HXI,_⟩:=HCL.out i hi
     clear hcl
     go_wp2_with (first|(go_at_call 14;refine HP1.out.mono ?_;rintro e w5 ⟨j,rfl,hj,hww⟩;obtain rfl:=hww.symm;obtain⟨xj,hcj,HXJ,yj,hyj⟩:=HCL.out j (by omega)))
     go_roundw
     case rel =>
      have hjn:j < n:=by omega
      have h1:=(hbx.set i (.int .i64 (xj:Nat))).set j (.int .i64 (xi:Nat))
      rw[zjq,zjq] at h1
      have e:(l.set i xj).set j xi=zva l i j:=by unfold zva;rw[← HXI.out,← HXJ.out]
      rw[e] at h1
      exact⟨(i:Int) - 1,zva l i j,by omega,by omega,by go_num,by rw[z5j];exact hll,(z1a (by omega) (by omega)).trans HP.out,h1,(hbk.setCell (by simp) _).setCell (by simp) _⟩
     case measure=>simp[intOf];omega
    ·go_wp2
     go_ret
     exact⟨rfl,l,hll,HP.out,hbx,hbk⟩
end Go.Proofs.YteampbddflhngabGreat
