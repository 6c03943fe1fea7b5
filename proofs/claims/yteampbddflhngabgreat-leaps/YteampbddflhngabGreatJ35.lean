import Derived.Test.YteampbddflhngabGreatJ30
import Derived.Deep.RegionHeld3
import Derived.Test.YteampbddflhngabGreatJ34
import Derived.Test.YteampbddflhngabGreatJ08
import Derived.Deep.CutRange

namespace Go.Proofs.YteampbddflhngabGreat
set_option maxRecDepth 100000
set_option maxHeartbeats 2000000
open Go.RowKit
variable {lo:Nat}
def zj1(n:Nat):List Int->List Bool->Bool
 |[],_=>true
 |x::r,seen=>if x < 0∨(n:Int)<=x∨5<=x then false else if seen.getD x.toNat false then false else zj1 n r (seen.set x.toNat true)
def zyn(l:List Int):Bool:=zj1 l.length l [false,false,false,false,false]
theorem z4m{n:Nat}{l:List Int}{k:Nat}(hk:k < l.length){seen:List Bool}(h:l[k] < 0∨(n:Int)<=l[k]∨5<=l[k]):zj1 n (l.drop k) seen=false:=by
 rw[List.drop_eq_getElem_cons hk,zj1,if_pos h]
theorem zyo{n:Nat}{l:List Int}{k:Nat}(hk:k < l.length){seen:List Bool}(h:seen.getD l[k].toNat false=true):zj1 n (l.drop k) seen=false:=by
 rw[List.drop_eq_getElem_cons hk,zj1]
 split
 ·rfl
 ·simp
theorem z1m{n:Nat}{l:List Int}{k:Nat}(hk:k < l.length){seen:List Bool}(h:¬ (l[k] < 0∨(n:Int)<=l[k]∨5<=l[k]))(h2:seen.getD l[k].toNat false=false):zj1 n (l.drop k) seen=zj1 n (l.drop (k+1)) (seen.set l[k].toNat true):=by
 rw[List.drop_eq_getElem_cons hk,zj1,if_neg h,if_neg (by rw[h2];decide)]
theorem zr5(w:World)(v:Value)(l:List Int)(h:zhh w v (some l))(hl:l.length<=2000000) :
  Calls Tryz.prog 97 #[v] w fun e w'=>e=.returned (.bool (zyn l))/\Below w.heap.size w w':=by
 obtain⟨g,f,cap,rfl,hg,hcl⟩:=h
 have HC:Hid (∀ k (h:k < l.length),w.cell? ⟨g,f+k,none⟩=some (.int .i64 l[k])):=hcl
 clear hcl
 go_enter Tryz.func97,Tryz.ntmps97
 go_wp2
 go_loopw [8] (fun v8 wr=>∃(k:Nat) (seen:List Bool),k<=l.length/\v8=.int .i64 k/\seen.length=5/\Box wr w.heap.size (seen.map Value.bool).toArray 206/\Hid (zyn l=zj1 l.length (l.drop k) seen)/\Below w.heap.size w wr) (fun i _=>l.length - (intOf i).toNat)
 case atStart=>exact⟨0,[false,false,false,false,false],Nat.zero_le _,rfl,rfl,Box.new _ _ _,rfl,(by go_grown)⟩
 case round =>
  obtain⟨k,seen,hk,rfl,hs5,hbx,HE,hbk⟩:=hrel
  have hszk:=hbk.size
  by_cases hlt:k < l.length
  ·have hx0:=(hbk.cell (p:=⟨g,f+k,none⟩) hg).trans (HC.out k hlt)
   have hgr:g < wr.heap.size:=by omega
   have HO:Hid ((l[k] < 0∨(l.length:Int)<=l[k]∨5<=l[k])->zj1 l.length (l.drop k) seen=false):=fun h=>z4m hlt h
   have HT:Hid (seen.getD l[k].toNat false=true->zj1 l.length (l.drop k) seen=false):=fun h=>zyo hlt h
   have HX:Hid (¬ (l[k] < 0∨(l.length:Int)<=l[k]∨5<=l[k])->seen.getD l[k].toNat false=false->zj1 l.length (l.drop k) seen=zj1 l.length (l.drop (k+1)) (seen.set l[k].toNat true)):=fun h h2=>z1m hlt h h2
   generalize l[k]=x at *
   by_cases h0:x < 0
   ·go_wp2
    go_ret
    exact⟨by rw[HE.out,HO.out (Or.inl h0)];rfl,hbk⟩
   ·obtain⟨n,rfl⟩:=Int.eq_ofNat_of_zero_le (Int.not_lt.1 h0)
    by_cases h1:(l.length:Int)<=(n:Int)
    ·go_wp2
     go_ret
     exact⟨by rw[HE.out,HO.out (Or.inr (Or.inl h1))];rfl,hbk⟩
    ·by_cases h5:(5:Int)<=(n:Int)
     ·go_wp2
      go_ret
      exact⟨by rw[HE.out,HO.out (Or.inr (Or.inr h5))];rfl,hbk⟩
     ·have hn5:n < 5:=by omega
      obtain⟨hc,hf⟩:=hbx.rules
      have hbl:=hbx.lt
      have hcn:wr.cell? ⟨w.heap.size,n,none⟩=some (.bool (seen.getD n false)):=by
       rw[hc];simp[hs5,hn5,List.getD_eq_getElem?_getD]
      have hset:=hbx.set n (.bool true)
      have HS:Hid (((seen.map Value.bool).toArray.setIfInBounds n (.bool true))=((seen.set n true).map Value.bool).toArray):=by simp[Hid,List.map_set]
      rw[HS.out] at hset
      simp only[Int.toNat_natCast] at HT HX
      clear hc
      generalize hq:seen.getD n false=b at *
      have HQ:Hid (seen.getD n false=b):=hq
      clear hq
      cases b with
      |true =>
       go_wp2
       go_ret
       exact⟨by rw[HE.out,HT.out (by trivial)];rfl,hbk⟩
      |false =>
       go_wp2
       go_roundw
       case rel=>exact⟨k+1,seen.set n true,by omega,by go_num,by simpa using hs5,hset,by rw[Hid,HE.out,HX.out (by omega) (by trivial)],hbk.setCell (by simp) _⟩
       case measure=>simp[intOf];omega
  ·have HZ:Hid (zj1 l.length (l.drop k) seen=true):=by rw[List.drop_eq_nil_of_le (by omega)];rfl
   go_wp2
   go_ret
   exact⟨by rw[HE.out,HZ.out];rfl,hbk⟩
def zdw(c:zac):Option (List Int)->Bool
 |none=>true
 |some l=>l.length == (zah c).length && zyn l
theorem zvb(w:World)(c:zac)(va vb ov:Value)(o:Option (List Int))(hs:SIn lo w va c.head.args)(hb:LIn lo w vb c.body)(hl:c.head.args.length+zb9 c.body<=1000)(hl2:c.body.length<=1000)(ho:zhh w ov o)(hol:(o.getD []).length<=2000000) :
  Calls Tryz.prog 67 #[.agg #[.bool c.head.neg,.string c.head.pred,va,vb],ov] w fun e w'=>e=.returned (.bool (zdw c o))/\Below w.heap.size w w':=by
 obtain⟨ao,cap,rfl⟩:=hs.shape
 obtain⟨aob,capb,rfl⟩:=hb.shape
 have HP:Hid (∀ W,Below w.heap.size w W->Calls Tryz.prog 57 #[.agg #[.bool c.head.neg,.string c.head.pred,.slice ao c.head.args.length cap,.slice aob c.body.length capb]] W fun e w'=>∃ nv,e=.returned (.agg #[nv])/\w'.ownsRow W.heap.size 9 1 nv (zah c).length ((zah c).map Value.string)/\Below W.heap.size W w'):=fun W hW=>zny W c _ _ (hs.below hW) (hb.below hW) hl hl2
 have hpl:(zah c).length<=1000:=by have:=zi3 c.body [];unfold zah;simp at this;omega
 clear hs hb
 cases o with
 |none =>
  have h0:ov=.slice none 0 0:=ho
  subst h0
  have hnil:∀ W:World,(binOp .eql 70 (.slice none 0 0) (.slice none 0 0)).run Tryz.prog W=.ok (.bool true) W:=fun W=>by
   have:=run_equal_slice_nil W 70 3 none 0 0 Tryz.underlying70
   simp[binOp,this]
  go_enter Tryz.func67,Tryz.ntmps67
  go_wp2
  go_ret
  exact⟨rfl,(by go_grown)⟩
 |some l =>
  have HO:Hid (∀ W,Below w.heap.size w W->Calls Tryz.prog 97 #[ov] W fun e w'=>e=.returned (.bool (zyn l))/\Below W.heap.size W w'):=fun W hW=>zr5 W ov l (ho.below hW) hol
  have HE:Hid (zdw c (some l)=(l.length == (zah c).length && zyn l)):=rfl
  obtain⟨g,f,capo,rfl,_,_⟩:=ho
  simp only[Option.getD_some] at hol
  have hnil:∀ W:World,(binOp .eql 70 (.slice (some ⟨g,f,none⟩) l.length capo) (.slice none 0 0)).run Tryz.prog W=.ok (.bool false) W:=fun W=>by
   have:=run_equal_slice_nil W 70 3 (some ⟨g,f,none⟩) l.length capo Tryz.underlying70
   simp[binOp,this]
  generalize zah c=vs at *
  generalize zyn l=ob at *
  by_cases he:l.length=vs.length
  ·have hne:((l.length:Int) != (vs.length:Int))=false:=by rw[he];simp
   have HEQ:Hid (l.length=vs.length):=he
   clear he
   go_enter Tryz.func67,Tryz.ntmps67
   go_wp2_with (first|(go_at_call 57;refine(HP.out _ (by exact(by go_grown))).mono ?_;rintro e w1 ⟨nv,rfl,hown,hb1⟩;obtain⟨ao4,cap4,rfl⟩:=zab hown;have hB1:Below w.heap.size w w1:=(zae (by go_grown) hb1 (Nat.le_refl _));have hz1:=hB1.size)|(go_at_call 92;refine(zju _ _ _ vs (by exact(Box.new _ _ _).rules.1 0) (by exact zaa hown (by go_grown))).mono ?_;rintro e w2 ⟨rfl,hww⟩;obtain rfl:=hww.symm)|(go_at_call 97;refine(HO.out _ (by exact(hB1.alloc hz1 _))).mono ?_;rintro e w3 ⟨rfl,hb3⟩))
   go_ret
   exact⟨by rw[HE.out];simp[HEQ.out],zae (hB1.alloc hz1 _) hb3 (Nat.le_refl _)⟩
  ·have hne:((l.length:Int) != (vs.length:Int))=true:=by rw[bne_iff_ne];omega
   go_enter Tryz.func67,Tryz.ntmps67
   go_wp2_with (first|(go_at_call 57;refine(HP.out _ (by exact(by go_grown))).mono ?_;rintro e w1 ⟨nv,rfl,hown,hb1⟩;obtain⟨ao4,cap4,rfl⟩:=zab hown;have hB1:Below w.heap.size w w1:=(zae (by go_grown) hb1 (Nat.le_refl _));have hz1:=hB1.size)|(go_at_call 92;refine(zju _ _ _ vs (by exact(Box.new _ _ _).rules.1 0) (by exact zaa hown (by go_grown))).mono ?_;rintro e w2 ⟨rfl,hww⟩;obtain rfl:=hww.symm))
   go_ret
   exact⟨by rw[HE.out];simp[he],hB1.alloc hz1 _⟩
def zf7(cs:List zac):Option (List (Option (List Int)))->Bool
 |none=>true
 |some l=>l.length == cs.length && (cs.zip l).all fun x=>zdw x.1 x.2
theorem zt4(cs:List zac)(l:List (Option (List Int)))(h:l.length=cs.length)(k:Nat)(hk:k < cs.length):((cs.drop k).zip (l.drop k)).all (fun x=>zdw x.1 x.2)=(zdw cs[k] (l[k]'(by omega)) && ((cs.drop (k+1)).zip (l.drop (k+1))).all fun x=>zdw x.1 x.2):=by
 rw[List.drop_eq_getElem_cons hk,List.drop_eq_getElem_cons (l:=l) (i:=k) (by omega),List.zip_cons_cons,List.all_cons]
theorem zpo(w:World)(cv ov:Value)(cs:List zac)(os:Option (List (Option (List Int))))(hc:CIn lo 90 w cv cs)(hok:∀ c∈cs,zoe c)(hl:cs.length<=1000)(ho:zhi w ov os)(hol:(os.getD []).length<=2000000)(hoi:∀ o∈os.getD [],(o.getD []).length<=2000000) :
  Calls Tryz.prog 45 #[cv,ov] w fun e w'=>e=.returned (.bool (zf7 cs os))/\Below w.heap.size w w':=by
 obtain⟨aoc,capc,rfl⟩:=hc.shape
 cases os with
 |none =>
  have h0:ov=.slice none 0 0:=ho
  subst h0
  have hnil:∀ W:World,(binOp .eql 67 (.slice none 0 0) (.slice none 0 0)).run Tryz.prog W=.ok (.bool true) W:=fun W=>by
   have:=run_equal_slice_nil W 67 70 none 0 0 Tryz.underlying67
   simp[binOp,this]
  go_enter Tryz.func45,Tryz.ntmps45
  go_wp2
  go_ret
  exact⟨rfl,(by go_grown)⟩
 |some l =>
  simp only[Option.getD_some] at hol hoi
  have HO:Hid (zhi w ov (some l)):=ho
  have HCI:Hid (CIn lo 90 w (.slice aoc cs.length capc) cs):=hc
  have HE:Hid (zf7 cs (some l)=(l.length == cs.length && (cs.zip l).all fun x=>zdw x.1 x.2)):=rfl
  have HOI:Hid (∀ o∈l,(o.getD []).length<=2000000):=hoi
  have HOK:Hid (∀ c∈cs,zoe c):=hok
  obtain⟨g,f,capo,rfl,hg,_⟩:=ho
  have hnil:∀ W:World,(binOp .eql 67 (.slice (some ⟨g,f,none⟩) l.length capo) (.slice none 0 0)).run Tryz.prog W=.ok (.bool false) W:=fun W=>by
   have:=run_equal_slice_nil W 67 70 (some ⟨g,f,none⟩) l.length capo Tryz.underlying67
   simp[binOp,this]
  clear hc hoi hok
  by_cases hll:l.length=cs.length
  ·have hne:((l.length:Int) != (cs.length:Int))=false:=by rw[hll];simp
   have HLL:Hid (l.length=cs.length):=hll
   have hle:l.length<=1000:=by omega
   have H0:Hid (zf7 cs (some l)=((cs.drop 0).zip (l.drop 0)).all fun x=>zdw x.1 x.2):=by rw[Hid,HE.out];simp[hll]
   clear hll HE
   go_enter Tryz.func45,Tryz.ntmps45
   go_wp2
   clear hne hnil
   go_loopw [16] (fun v16 wr=>∃ k:Nat,k<=cs.length/\v16=.int .i64 k/\Hid (zf7 cs (some l)=((cs.drop k).zip (l.drop k)).all fun x=>zdw x.1 x.2)/\Below w.heap.size w wr) (fun i _=>cs.length - (intOf i).toNat)
   case atStart=>exact⟨0,Nat.zero_le _,rfl,H0,(by go_grown)⟩
   case round =>
    clear H0
    obtain⟨k,hk,rfl,HE,hbk⟩:=hrel
    have hszk:=hbk.size
    by_cases hlt:k < cs.length
    ·have hkl:k < l.length:=by rw[HLL.out];exact hlt
     obtain⟨g0,ao2,cap2,ao3,cap3,rfl,hg0,hd0,hd1,hd2,hd3,hsk,hlk⟩:=HCI.out.cell k hlt
     obtain⟨hk1,hk2⟩:=HOK.out cs[k] (List.getElem_mem hlt)
     obtain⟨_,_,u,hao,_,hu,hui⟩:=HO.out.cell k hkl
     simp only[Option.some.injEq,Addr.mk.injEq,and_true] at hao
     obtain⟨rfl,rfl⟩:=hao
     have hlo:=HOI.out l[k] (List.getElem_mem hkl)
     have HOO:Hid (∀ W,Below w.heap.size w W->Calls Tryz.prog 67 #[.agg #[.bool cs[k].head.neg,.string cs[k].head.pred,.slice ao2 cs[k].head.args.length cap2,.slice ao3 cs[k].body.length cap3],u] W fun e w'=>e=.returned (.bool (zdw cs[k] l[k]))/\Below W.heap.size W w'):=fun W hW=>zvb W cs[k] _ _ u l[k] (hsk.below hW) (hlk.below hW) hk1 hk2 (hui.below hW) hlo
     have HST:Hid (((cs.drop k).zip (l.drop k)).all (fun x=>zdw x.1 x.2)=(zdw cs[k] l[k] && ((cs.drop (k+1)).zip (l.drop (k+1))).all fun x=>zdw x.1 x.2)):=zt4 cs l HLL.out k hlt
     have e0:=(hbk.cell (p:=⟨g0,k * 4,none⟩) hg0).trans hd0
     have e1:=(hbk.cell (p:=⟨g0,k * 4+1,none⟩) hg0).trans hd1
     have e2:=(hbk.cell (p:=⟨g0,k * 4+2,none⟩) hg0).trans hd2
     have e3:=(hbk.cell (p:=⟨g0,k * 4+3,none⟩) hg0).trans hd3
     have eu:=(hbk.cell (p:=⟨g,f+k,none⟩) hg).trans hu
     have hgr0:g0 < wr.heap.size:=by omega
     have hgr:g < wr.heap.size:=by omega
     clear hd0 hd1 hd2 hd3 hu hui hsk hlk hk1 hk2 hlo
     generalize cs[k]=c at *
     generalize zdw c l[k]=b at *
     have hbn:=Box.new wr #[.bool c.head.neg,.string c.head.pred,.slice ao2 c.head.args.length cap2,.slice ao3 c.body.length cap3] 90
     cases b with
     |true =>
      go_wp2
      go_region_held3 (fun w'=>w'.cell? ⟨wr.heap.size,0,none⟩=some (.bool c.head.neg)/\w'.cell? ⟨wr.heap.size,1,none⟩=some (.string c.head.pred)/\w'.cell? ⟨wr.heap.size,2,none⟩=some (.slice ao2 c.head.args.length cap2)/\w'.cell? ⟨wr.heap.size,3,none⟩=some (.slice ao3 c.body.length cap3)/\w'.cell? ⟨g,f+k,none⟩=some u) (first|go_keep|(go_split_ands;refine⟨?_,?_,?_,?_,?_⟩ <;> go_keep)) (first|(go_at_call 67;refine(HOO.out _ (by exact(zae hbk (by go_grown) (Nat.le_refl _)))).mono ?_;rintro e w4 ⟨rfl,hb4⟩;have hB4:Below wr.heap.size wr w4:=(zae (by go_grown) hb4 (Nat.le_refl _));have hn4:=hbn.below (by first|exact hb4|exact(zax (Below.refl _ _) _).trans hb4);obtain⟨hn4c,hn4f⟩:=hn4.rules;have eu4:=(hB4.cell (p:=⟨g,f+k,none⟩) hgr).trans eu))
      go_wp2
      go_roundw
      case rel=>exact⟨k+1,by omega,by go_num,by rw[Hid,HE.out,HST.out];simp,zae hbk hB4 (Nat.le_refl _)⟩
      case measure=>simp[intOf];omega
     |false =>
      go_wp2
      go_region_held3 (fun w'=>w'.cell? ⟨wr.heap.size,0,none⟩=some (.bool c.head.neg)/\w'.cell? ⟨wr.heap.size,1,none⟩=some (.string c.head.pred)/\w'.cell? ⟨wr.heap.size,2,none⟩=some (.slice ao2 c.head.args.length cap2)/\w'.cell? ⟨wr.heap.size,3,none⟩=some (.slice ao3 c.body.length cap3)/\w'.cell? ⟨g,f+k,none⟩=some u) (first|go_keep|(go_split_ands;refine⟨?_,?_,?_,?_,?_⟩ <;> go_keep)) (first|(go_at_call 67;refine(HOO.out _ (by exact(zae hbk (by go_grown) (Nat.le_refl _)))).mono ?_;rintro e w4 ⟨rfl,hb4⟩;have hB4:Below wr.heap.size wr w4:=(zae (by go_grown) hb4 (Nat.le_refl _));have hn4:=hbn.below (by first|exact hb4|exact(zax (Below.refl _ _) _).trans hb4);obtain⟨hn4c,hn4f⟩:=hn4.rules;have eu4:=(hB4.cell (p:=⟨g,f+k,none⟩) hgr).trans eu))
      go_wp2
      go_ret
      exact⟨by rw[HE.out,HST.out];rfl,zae hbk hB4 (Nat.le_refl _)⟩
    ·have HZ:Hid (zf7 cs (some l)=true):=by rw[Hid,HE.out,List.drop_eq_nil_of_le (by omega)];rfl
     go_wp2
     go_ret
     exact⟨by rw[HZ.out];rfl,hbk⟩
  ·have hne:((l.length:Int) != (cs.length:Int))=true:=by rw[bne_iff_ne];omega
   have H0:Hid (zf7 cs (some l)=false):=by rw[Hid,HE.out];simp[hll]
   go_enter Tryz.func45,Tryz.ntmps45
   go_wp2
   go_ret
   exact⟨by rw[H0.out];rfl,(by go_grown)⟩
end Go.Proofs.YteampbddflhngabGreat
namespace Go.Proofs.YteampbddflhngabGreat
set_option maxRecDepth 100000
set_option maxHeartbeats 4000000
open Go.RowKit
variable {lo lp:Nat}
structure z6x (S:zre):Prop where
 rules:zla S.arities.length S.rules
 many:S.arities.length<=1000
 small:∀ a∈S.arities,a<=100000000
 rows:∀ f∈S.facts,f.row.length=3
 facts:S.facts.length<=1000000
 width:S.width<=1000
structure z5t (cs:List zac) (t:List zav) (os:Option (List (Option (List Int)))):Prop where
 len:cs.length<=1000
 names:t.length<=1000
 fine:∀ c∈cs,zoe c
 sums:∀ c∈cs,c.head.args.length+zb9 c.body<=1000/\c.body.length<=900
 few:z5i cs
 vals:(zau cs).length<=1000
 strat:∀ n,zdx t n<=1000000
 ords:(os.getD []).length<=2000000
 each:∀ o∈os.getD [],(o.getD []).length<=2000000
 ordok:zf7 cs os=true->∀ o∈os.getD [],(o.getD []).length<=1000
 set:zf7 cs os=true->z6x (zjx t (zau cs) os cs)
def zmu(w0 w:World)(S:zre)(s:Value):Prop:=∃(fl sb:Nat) (a1:Option Addr) (c1:Nat) (a2:Option Addr) (c2:Nat) (a3:Option Addr) (c3:Nat) (ps:List (Value × Value × Value)),s=.pointer (some ⟨sb,0,none⟩)/\w0.heap.size<=sb/\w0.heap.size<=fl/\fl<=w.heap.size/\Box w sb #[.int .i64 (S.width:Nat),.slice a1 S.arities.length c1,.slice a2 S.facts.length c2,.slice a3 S.rules.length c3] 99/\Hid (zka fl w (.slice a1 S.arities.length c1) (.slice a2 S.facts.length c2) (.slice a3 S.rules.length c3) S ps)/\Hid (Below w0.heap.size w0 w)
theorem zka.saveT{w w':World}{av fv rv:Value}{S:zre}{ps:List (Value × Value × Value)}{T:TypeId}{M:List Nat}(h:zka lo w av fv rv S ps)(hs:zao M w w')(hM:OfT w T M)(h0:3≠T)(h1:153≠T)(hT:208≠T)(hT2:147≠T)(hT3:150≠T):zka lo w' av fv rv S ps:=⟨zak h.ari hs hM h0,zak h.fac hs hM h1,h.rul.saveT hs hM hT hT2 hT3⟩
theorem zka.below{w w':World}{av fv rv:Value}{S:zre}{ps:List (Value × Value × Value)}(h:zka lo w av fv rv S ps)(hb:Below w.heap.size w w'):zka lo w' av fv rv S ps:=⟨zaa h.ari hb,zaa h.fac hb,h.rul.below hb⟩
theorem zmu.one{w0 W w4:World}{S:zre}{a1 a2 a3:Option Addr}{c1 c2 c3:Nat}{ps:List (Value × Value × Value)}(hW:Below w0.heap.size w0 W)(hb:Below W.heap.size W w4)(h:zka W.heap.size w4 (.slice a1 S.arities.length c1) (.slice a2 S.facts.length c2) (.slice a3 S.rules.length c3) S ps):zmu w0 (w4.alloc (.cells #[.int .i64 (S.width:Nat),.slice a1 S.arities.length c1,.slice a2 S.facts.length c2,.slice a3 S.rules.length c3] 99)) S (.pointer (some ⟨w4.heap.size,0,none⟩)):=by
 have hg:Below w4.heap.size w4 (w4.alloc (.cells #[.int .i64 (S.width:Nat),.slice a1 S.arities.length c1,.slice a2 S.facts.length c2,.slice a3 S.rules.length c3] 99)):=(Below.refl _ _).alloc (Nat.le_refl _) _
 have h1:=hW.size
 have h2:=hb.size
 have h3:=hg.size
 exact⟨W.heap.size,w4.heap.size,a1,c1,a2,c2,a3,c3,ps,rfl,by omega,h1,by omega,Box.new _ _ _,h.below hg,zae (zae hW hb (Nat.le_refl _)) hg (Nat.le_refl _)⟩
theorem zmu.two{w0 W w4:World}{sb:Nat}{z0 z1 z2 z3:Value}{S:zre}{a1 a2 a3:Option Addr}{c1 c2 c3:Nat}{ps:List (Value × Value × Value)}(hsb:w0.heap.size<=sb)(hW:Below w0.heap.size w0 W)(hb:Below W.heap.size W w4)(hx:Box w4 sb #[z0,z1,z2,z3] 99)(h:zka W.heap.size w4 (.slice a1 S.arities.length c1) (.slice a2 S.facts.length c2) (.slice a3 S.rules.length c3) S ps):zmu w0 ((((w4.setCell ⟨sb,0,none⟩ (.int .i64 (S.width:Nat))).setCell ⟨sb,1,none⟩ (.slice a1 S.arities.length c1)).setCell ⟨sb,2,none⟩ (.slice a2 S.facts.length c2)).setCell ⟨sb,3,none⟩ (.slice a3 S.rules.length c3)) S (.pointer (some ⟨sb,0,none⟩)):=by
 have h1:=hW.size
 have h2:=hb.size
 have b1:=hx.set 0 (.int .i64 (S.width:Nat))
 have b2:=b1.set 1 (.slice a1 S.arities.length c1)
 have b3:=b2.set 2 (.slice a2 S.facts.length c2)
 have b4:=b3.set 3 (.slice a3 S.rules.length c3)
 have s1:zka W.heap.size ((((w4.setCell ⟨sb,0,none⟩ (.int .i64 (S.width:Nat))).setCell ⟨sb,1,none⟩ (.slice a1 S.arities.length c1)).setCell ⟨sb,2,none⟩ (.slice a2 S.facts.length c2)).setCell ⟨sb,3,none⟩ (.slice a3 S.rules.length c3)) (.slice a1 S.arities.length c1) (.slice a2 S.facts.length c2) (.slice a3 S.rules.length c3) S ps:=(((h.saveT (zao.set _ _ _ (.int .i64 (S.width:Nat))) (OfT.box hx) (by decide) (by decide) (by decide) (by decide) (by decide)).saveT (zao.set _ _ _ (.slice a1 S.arities.length c1)) (OfT.box b1) (by decide) (by decide) (by decide) (by decide) (by decide)).saveT (zao.set _ _ _ (.slice a2 S.facts.length c2)) (OfT.box b2) (by decide) (by decide) (by decide) (by decide) (by decide)).saveT (zao.set _ _ _ (.slice a3 S.rules.length c3)) (OfT.box b3) (by decide) (by decide) (by decide) (by decide) (by decide)
 exact⟨W.heap.size,sb,a1,c1,a2,c2,a3,c3,ps,rfl,hsb,h1,by simp;omega,by simpa using b4,s1,((((zae hW hb (Nat.le_refl _)).setCell hsb _).setCell hsb _).setCell hsb _).setCell hsb _⟩
theorem Mod.belowLo{ok:TypeId->zay->Prop}{w w':World}{own own':Nat->zay}(h:Mod lo ok w own w' own')(hl:lo<=w.heap.size):Below lo w w':=by
 obtain⟨_,M,h2,h3⟩:=h
 exact h2.below (fun b hb=>(h3 b hb).1) hl
def z6w(lp:Nat)(t:List zav)(ns:List ByteArray)(res:Option zbt)(w:World)(e:Ending)(w':World):Prop:=match res with
 |none=>e=.returned (.tuple #[.pointer none,.int .i64 10])/\Below w.heap.size w w'
 |some R=>∃ rb pv nv rv tbs,w.heap.size<=rb/\e=.returned (.tuple #[.pointer (some ⟨rb,0,none⟩),.int .i64 0])/\zzm w.heap.size lp w' rb t ns R pv nv rv tbs/\Below w.heap.size w w'
theorem z7k(w:World)(pb:Nat)(cs:List zac)(t:List zav)(ov:Value)(os:Option (List (Option (List Int))))(rows rounds:Nat)(hP:z5s lp w pb cs t)(ho:zhi w ov os)(hk:z5t cs t os)(hb:zf7 cs os=false)(h1:rows<=1048576)(h2:rounds<=1048576) :
  Calls Tryz.prog 24 #[.pointer (some ⟨pb,0,none⟩),ov,.int .i64 rows,.int .i64 rounds] w fun e w'=>e=.returned (.tuple #[.pointer none,.int .i64 9])/\Below w.heap.size w w':=by
 obtain⟨_,cv,pv,hbx,hci,_⟩:=hP
 have HOR:Hid (Calls Tryz.prog 45 #[cv,ov] w fun e w'=>e=.returned (.bool (zf7 cs os))/\Below w.heap.size w w'):=zpo w cv ov cs os hci hk.fine hk.len ho hk.ords hk.each
 rw[hb] at HOR
 obtain⟨hc,hf⟩:=hbx.rules
 have hlt:=hbx.lt
 clear hb
 go_enter Tryz.func24,Tryz.ntmps24
 go_wp2_with (first|(go_at_call 45;refine HOR.out.mono ?_;rintro e w1 ⟨rfl,hb1⟩))
 go_ret2
 exact⟨rfl,hb1⟩
theorem z7j(w:World)(pb:Nat)(cs:List zac)(t:List zav)(ov:Value)(os:Option (List (Option (List Int))))(rows rounds fuel:Nat)(res:Option zbt)(hP:z5s lp w pb cs t)(ho:zhi w ov os)(hk:z5t cs t os)(hb:zf7 cs os=true)(h1:rows<=1048576)(h2:rounds<=1048576)(hlp:lp<=w.heap.size)(hr:z6s fuel (zjx t (zau cs) os cs) rows rounds=some res) :
  Calls Tryz.prog 24 #[.pointer (some ⟨pb,0,none⟩),ov,.int .i64 rows,.int .i64 rounds] w fun e w'=>z6w lp t (zau cs) res w e w':=by
 have HP:Hid (z5s lp w pb cs t):=hP
 obtain⟨_,cv,pv,hbx,hci,hpo⟩:=hP
 have HOR:Hid (Calls Tryz.prog 45 #[cv,ov] w fun e w'=>e=.returned (.bool (zf7 cs os))/\Below w.heap.size w w'):=zpo w cv ov cs os hci hk.fine hk.len ho hk.ords hk.each
 rw[hb] at HOR
 have HCO:Hid (∀ W,Below w.heap.size w W->Calls Tryz.prog 46 #[cv] W fun e w'=>∃ v',e=.returned (.agg #[v'])/\SIn W.heap.size w' v' (zau cs)/\Below W.heap.size W w'):=fun W hW=>zrz W cv cs (hci.below hW) hk.few
 have HMA:Hid (∀ W cb,Below w.heap.size w W->z2v lp W cb (zau cs)->Calls Tryz.prog 47 #[cv,.pointer (some ⟨pb,1,none⟩),.pointer (some ⟨cb,0,none⟩),ov] W fun e w'=>zv8 W (zjx t (zau cs) os cs) e w'):=fun W cb hW hC=>z4h W pb 1 cb t (zau cs) cs cv ov os ⟨pv,(hbx.below hW).lt,(hbx.below hW).rules.1 1,zaa hpo hW⟩ hC hk.names hk.vals (hci.below hW) hk.sums hk.len (ho.below hW) hk.ords (hk.ordok hb) hk.strat
 have HSO:Hid (z6x (zjx t (zau cs) os cs)):=hk.set hb
 have HVL:Hid ((zau cs).length<=1000/\t.length<=1000):=⟨hk.vals,hk.names⟩
 have HRU:Hid (z6s fuel (zjx t (zau cs) os cs) rows rounds=some res):=hr
 obtain⟨hc,hf⟩:=hbx.rules
 have hlt:=hbx.lt
 have d0:=hc 0
 have d1:=hc 1
 simp only[List.getElem?_toArray,List.getElem?_cons_zero,List.getElem?_cons_succ] at d0 d1
 clear hb hr hc hk hci ho
 generalize zjx t (zau cs) os cs=S at *
 generalize zau cs=ns at *
 have HBX:Hid (Box w pb #[cv,pv] 88):=hbx
 have HPO:Hid (w.ownsRow lp 138 3 pv t.length (zck t)):=hpo
 clear hbx hpo
 go_enter Tryz.func24,Tryz.ntmps24
 go_upto_region 6 with (first|(go_at_call 45;refine HOR.out.mono ?_;rintro e w1 ⟨rfl,hb1⟩;have y0:=(hb1.cell (p:=⟨pb,0,none⟩) hlt).trans d0;have yl:pb < w1.heap.size:=Nat.lt_of_lt_of_le hlt hb1.size)|(go_at_call 46;refine(HCO.out _ hb1).mono ?_;rintro e w2 ⟨v2,rfl,HS2,hb2⟩;obtain⟨ao2,cap2,rfl⟩:=HS2.shape))
 obtain⟨W3,hW3⟩:∃ W3,W3=w2.alloc (.cells #[.slice ao2 ns.length cap2] 94):=⟨_,rfl⟩
 have hg3:Below w2.heap.size w2 (w2.alloc (.cells #[.slice ao2 ns.length cap2] 94)):=(by go_grown)
 have hcb:=Box.new w2 #[.slice ao2 ns.length cap2] 94
 have hs3:=(HS2.below hg3).low (show w.heap.size<=w1.heap.size from hb1.size)
 have hB2:Below w.heap.size w w2:=zae hb1 hb2 (Nat.le_refl _)
 have hB3:Below w.heap.size w (w2.alloc (.cells #[.slice ao2 ns.length cap2] 94)):=zae hB2 hg3 (Nat.le_refl _)
 have hwc:w.heap.size<=w2.heap.size:=hB2.size
 rw[← hW3] at hcb hs3 hB3
 rw[← hW3]
 generalize w2.heap.size=cb at *
 have HCB:Hid (Box W3 cb #[.slice ao2 ns.length cap2] 94):=hcb
 have HS3:Hid (SIn w.heap.size W3 (.slice ao2 ns.length cap2) ns):=hs3
 have x0:=(hB3.cell (p:=⟨pb,0,none⟩) hlt).trans d0
 have hcl:=hcb.lt
 have xl:pb < W3.heap.size:=Nat.lt_of_lt_of_le hlt hB3.size
 have HMA2:Hid (∀ W,Below W3.heap.size W3 W->Calls Tryz.prog 47 #[cv,.pointer (some ⟨pb,1,none⟩),.pointer (some ⟨cb,0,none⟩),ov] W fun e w'=>∃ a1 c1 a2 c2 a3 c3 ps,e=.returned (.agg #[.int .i64 (S.width:Nat),.slice a1 S.arities.length c1,.slice a2 S.facts.length c2,.slice a3 S.rules.length c3])/\Hid (zka W.heap.size w' (.slice a1 S.arities.length c1) (.slice a2 S.facts.length c2) (.slice a3 S.rules.length c3) S ps)/\Below W.heap.size W w'/\w'.cell? ⟨pb,0,none⟩=some cv):=fun W hb=>by
  refine(HMA.out W cb (zae hB3 hb (Nat.le_refl _)) ⟨Nat.le_trans hlp hwc,_,HCB.out.below hb,(HS3.out.below hb).low hlp⟩).mono ?_
  rintro e w' ⟨av,fv,rv,ps,h1,h2,h3⟩
  have hq:=zae hb h3 (Nat.le_refl _)
  obtain⟨a1,c1,rfl⟩:=zab h2.ari
  obtain⟨a2,c2,rfl⟩:=zab h2.fac
  obtain⟨a3,c3,rfl⟩:=zab h2.rul.own
  exact⟨a1,c1,a2,c2,a3,c3,ps,h1,h2,h3,(hq.cell xl).trans x0⟩
 clear hW3 hcb hs3 hg3 HCO HOR HMA y0 yl HS2 hb2 hb1 hB2 w1 w2 d0
 go_cut [11] from 40 to 48 (fun s11 wx=>zmu W3 wx S s11)
 case first =>
  go_region_held3 (fun w'=>w'.cell? ⟨pb,0,none⟩=some cv) (first|go_keep|(go_simp;done)) (first|(go_at_call 47;refine(HMA2.out _ (by exact(by go_grown))).mono ?_;rintro e w4 ⟨a1,c1,a2,c2,a3,c3,ps,rfl,HSI,hb4,z0⟩;(try (with_reducible refine Box.carry (Box.drew (Box.new W3 #[.int .i64 0,.slice none 0 0,.slice none 0 0,.slice none 0 0] 99)) hb4 ?_;intro hbz;obtain⟨hbzc,hbzf⟩:=hbz.rules;have hbzl:=hbz.lt))))
  all_goals
   go_wp2_with fail
   go_meet
   case rel=>first|exact zmu.one (W:=W3.drew) (by go_grown) hb4 HSI.out|exact zmu.two (Nat.le_refl _) (W:=(W3.alloc (.cells #[.int .i64 0,.slice none 0 0,.slice none 0 0,.slice none 0 0] 99)).drew) (by go_grown) hb4 hbz HSI.out
 case rest =>
  clear HMA2 x0
  obtain⟨fl,sb,a1,c1,a2,c2,a3,c3,ps,rfl,hsb,hfl,hfw,hbs,HSI,HB4⟩:=hcut
  have HRN:Hid (Calls Tryz.prog 48 #[.agg #[.int .i64 (S.width:Nat),.slice a1 S.arities.length c1,.slice a2 S.facts.length c2,.slice a3 S.rules.length c3],.int .i64 rows,.int .i64 rounds] wc fun e w'=>zzn fl wc zrh S.width rows rounds res e w'):=run_any wc S ps _ _ _ rows rounds fuel res HSI.out hfw HSO.out.rules HSO.out.many HSO.out.small HSO.out.rows HSO.out.facts ⟨HSO.out.width,h1,h2⟩ HRU.out
  obtain⟨hsc,hsf⟩:=hbs.rules
  have hsl:=hbs.lt
  have hB4:Below w.heap.size w wc:=zae hB3 HB4.out (Nat.le_refl _)
  have HCW:Hid (cb < W3.heap.size):=hcl
  have hwf:w.heap.size<=fl:=Nat.le_trans hB3.size hfl
  clear HSI HSO HRU hcl xl
  cases res with
  |none =>
   have HRN2:Hid (Calls Tryz.prog 48 #[.agg #[.int .i64 (S.width:Nat),.slice a1 S.arities.length c1,.slice a2 S.facts.length c2,.slice a3 S.rules.length c3],.int .i64 rows,.int .i64 rounds] wc fun e w'=>e=.returned (.tuple #[.agg #[.slice none 0 0,.int .i64 0,.int .i64 0,.int .i64 0],.bool false])/\Below fl wc w'):=by
    refine HRN.out.mono ?_
    rintro e w' ⟨h1,own',h2⟩
    exact⟨h1,h2.belowLo hfw⟩
   clear HRN
   go_wp2_with (first|(go_at_call 48;refine HRN2.out.mono ?_;rintro e w5 ⟨rfl,hb5⟩))
   go_ret2
   exact⟨rfl,zae (hB4.trans (hb5.mono hwf)) (by go_grown) (Nat.le_refl _)⟩
  |some R =>
   have HRN2:Hid (Calls Tryz.prog 48 #[.agg #[.int .i64 (S.width:Nat),.slice a1 S.arities.length c1,.slice a2 S.facts.length c2,.slice a3 S.rules.length c3],.int .i64 rows,.int .i64 rounds] wc fun e w'=>∃ aor capr tbs,e=.returned (.tuple #[.agg #[.slice aor R.rows.length capr,.int .i64 (R.count:Nat),.int .i64 (R.rounds:Nat),.int .i64 R.moves],.bool true])/\Hid (w'.ownsRow fl 113 1 (.slice aor R.rows.length capr) R.rows.length (pts tbs)/\tbs.length=R.rows.length/\(∀ p (_:p < R.rows.length) (_:p < tbs.length),∃ fp,zar fl w' tbs[p] R.rows[p] fp)/\R.rows.length<=1000)/\Below fl wc w'):=by
    refine HRN.out.mono ?_
    rintro e w' ⟨own',rb,Q,h1,h2,h3⟩
    obtain⟨aor,capr,hrv⟩:=zab h2.rows
    refine⟨aor,capr,Q.tbs,by rw[h1,hrv],⟨by rw[← hrv];exact h2.rows,h2.tlen,fun p a b=>?_,h2.few.1⟩,h3.belowLo hfw⟩
    obtain⟨fp,q,_⟩:=h2.tries p a b
    exact⟨fp,q⟩
   clear HRN
   go_upto_region 10 with (first|(go_at_call 48;refine HRN2.out.mono ?_;rintro e w5 ⟨aor,capr,tbs,rfl,HRO,hb5⟩))
   have hB5:Below w.heap.size w w5:=hB4.trans (hb5.mono hwf)
   have hB35:Below W3.heap.size W3 w5:=HB4.out.trans (hb5.mono hfl)
   have hg6:Below w5.heap.size w5 (w5.alloc (.cells #[.slice aor R.rows.length capr,.int .i64 (R.count:Nat),.int .i64 (R.rounds:Nat),.int .i64 R.moves] 105)):=(by go_grown)
   have hb12:=Box.new w5 #[.slice aor R.rows.length capr,.int .i64 (R.count:Nat),.int .i64 (R.rounds:Nat),.int .i64 R.moves] 105
   have hcb6:=(HCB.out.below hB35).below hg6
   have HSS:Hid (SIn w.heap.size (w5.alloc (.cells #[.slice aor R.rows.length capr,.int .i64 (R.count:Nat),.int .i64 (R.rounds:Nat),.int .i64 R.moves] 105)) (.slice ao2 ns.length cap2) ns):=(HS3.out.below hB35).below hg6
   have hB6:Below w.heap.size w (w5.alloc (.cells #[.slice aor R.rows.length capr,.int .i64 (R.count:Nat),.int .i64 (R.rounds:Nat),.int .i64 R.moves] 105)):=zae hB5 hg6 (Nat.le_refl _)
   have HPR:Hid (World.ownsRow (w5.alloc (.cells #[.slice aor R.rows.length capr,.int .i64 (R.count:Nat),.int .i64 (R.rounds:Nat),.int .i64 R.moves] 105)) lp 138 3 pv t.length (zck t)):=zaa HPO.out hB6
   have HRW:Hid (World.ownsRow (w5.alloc (.cells #[.slice aor R.rows.length capr,.int .i64 (R.count:Nat),.int .i64 (R.rounds:Nat),.int .i64 R.moves] 105)) w.heap.size 113 1 (.slice aor R.rows.length capr) R.rows.length (pts tbs)/\tbs.length=R.rows.length/\(∀ p (_:p < R.rows.length) (_:p < tbs.length),∃ fp,zar w.heap.size (w5.alloc (.cells #[.slice aor R.rows.length capr,.int .i64 (R.count:Nat),.int .i64 (R.rounds:Nat),.int .i64 R.moves] 105)) tbs[p] R.rows[p] fp)/\R.rows.length<=1000):=by
    obtain⟨q1,q2,q3,q4⟩:=HRO.out
    refine⟨zbb (zaa q1 hg6) hwf,q2,fun p a b=>?_,q4⟩
    obtain⟨fp,q⟩:=q3 p a b
    exact⟨fp,(q.below hg6).low hwf⟩
   obtain⟨aop,capp,hpv⟩:=zab HPO.out
   subst hpv
   have y1:=(hB6.cell (p:=⟨pb,1,none⟩) hlt).trans d1
   have yl:pb < (w5.alloc (.cells #[.slice aor R.rows.length capr,.int .i64 (R.count:Nat),.int .i64 (R.rounds:Nat),.int .i64 R.moves] 105)).heap.size:=Nat.lt_of_lt_of_le hlt hB6.size
   have hlow6:=hB6.size
   clear hg6 hB35 hB5 HRO HRN2 hb5 hB4 HB4 HS3 HCB hbs hsc hsf hsl
   generalize w5.alloc (.cells #[.slice aor R.rows.length capr,.int .i64 (R.count:Nat),.int .i64 (R.rounds:Nat),.int .i64 R.moves] 105)=W6 at *
   generalize w5.heap.size=ob at *
   obtain⟨oc,of⟩:=hb12.rules
   have ol:=hb12.lt
   have o0:=oc 0
   have o1:=oc 1
   have o2:=oc 2
   have o3:=oc 3
   obtain⟨bc,bf⟩:=hcb6.rules
   have bl:=hcb6.lt
   have b0:=bc 0
   simp only[List.getElem?_toArray,List.getElem?_cons_zero,List.getElem?_cons_succ] at o0 o1 o2 o3 b0
   clear oc bc hb12 hcb6
   go_region
   have hg7:Below W6.heap.size W6 (W6.alloc (.cells #[.slice aop t.length capp,.slice ao2 ns.length cap2,.slice aor R.rows.length capr,.int .i64 (R.count:Nat),.int .i64 (R.rounds:Nat),.int .i64 R.moves] 109)).drew:=(by go_grown)
   have HFIN:Hid (zzm w.heap.size lp (W6.alloc (.cells #[.slice aop t.length capp,.slice ao2 ns.length cap2,.slice aor R.rows.length capr,.int .i64 (R.count:Nat),.int .i64 (R.rounds:Nat),.int .i64 R.moves] 109)).drew W6.heap.size t ns R (.slice aop t.length capp) (.slice ao2 ns.length cap2) (.slice aor R.rows.length capr) tbs/\Below w.heap.size w (W6.alloc (.cells #[.slice aop t.length capp,.slice ao2 ns.length cap2,.slice aor R.rows.length capr,.int .i64 (R.count:Nat),.int .i64 (R.rounds:Nat),.int .i64 R.moves] 109)).drew):=by
    refine⟨⟨hlow6,Box.drew (Box.new _ _ _),zaa HPR.out hg7,HSS.out.below hg7,zaa HRW.out.1 hg7,HRW.out.2.1,fun p a b=>?_,⟨HVL.out.2,HVL.out.1,HRW.out.2.2.2⟩⟩,zae hB6 hg7 (Nat.le_refl _)⟩
    obtain⟨fp,q⟩:=HRW.out.2.2.1 p a b
    exact⟨fp,q.below hg7⟩
   clear hg7 HPR HSS HRW o0 o1 o2 o3 b0
   go_wp2
   go_ret2
   exact⟨W6.heap.size,_,_,_,tbs,hlow6,rfl,HFIN.out.1,HFIN.out.2⟩
end Go.Proofs.YteampbddflhngabGreat
