import Derived.Test.YteampbddflhngaaGreatB33
import Derived.Deep.RegionHeld3

namespace Go.Proofs.YteampbddflhngaaGreat
set_option maxRecDepth 100000
set_option maxHeartbeats 2000000
open Go.RowKit
variable {lo:Nat}
def onceN (n:Nat):List Int->List Bool->Bool
  | [],_=>true
  | x::r,seen=>if x < 0∨(n:Int)<=x∨5<=x then false else if seen.getD x.toNat false then false else onceN n r (seen.set x.toNat true)
def onceB (l:List Int):Bool:=onceN l.length l [false,false,false,false,false]
theorem once_out {n:Nat} {l:List Int} {k:Nat} (hk:k < l.length) {seen:List Bool} (h:l[k] < 0∨(n:Int)<=l[k]∨5<=l[k]):onceN n (l.drop k) seen=false:=by
  rw [List.drop_eq_getElem_cons hk,onceN,if_pos h]
theorem once_twice {n:Nat} {l:List Int} {k:Nat} (hk:k < l.length) {seen:List Bool} (h:seen.getD l[k].toNat false=true):onceN n (l.drop k) seen=false:=by
  rw [List.drop_eq_getElem_cons hk,onceN]
  split
  · rfl
  · simp
theorem once_next {n:Nat} {l:List Int} {k:Nat} (hk:k < l.length) {seen:List Bool} (h:¬ (l[k] < 0∨(n:Int)<=l[k]∨5<=l[k])) (h2:seen.getD l[k].toNat false=false):onceN n (l.drop k) seen=onceN n (l.drop (k+1)) (seen.set l[k].toNat true):=by
  rw [List.drop_eq_getElem_cons hk,onceN,if_neg h,if_neg (by rw [h2];decide)]
theorem eachOnce_any (w:World) (v:Value) (l:List Int) (h:OrdIn w v (some l)) (hl:l.length<=2000000) :
    Calls Tryz.prog 155 #[v] w fun e w'=>e=.returned (.bool (onceB l))/\Below w.heap.size w w':=by
  obtain ⟨g,f,cap,rfl,hg,hcl⟩:=h
  have HC:Hid (∀ k (h:k < l.length),w.cell? ⟨g,f+k,none⟩=some (.int .i64 l[k])):=hcl
  clear hcl
  go_enter Tryz.func155,Tryz.ntmps155
  go_wp2
  go_loopw [8] (fun v8 wr=>∃ (k:Nat) (seen:List Bool),k<=l.length/\v8=.int .i64 k/\seen.length=5/\Box wr w.heap.size (seen.map Value.bool).toArray 282/\Hid (onceB l=onceN l.length (l.drop k) seen)/\Below w.heap.size w wr) (fun i _=>l.length - (intOf i).toNat)
  case atStart=>exact ⟨0,[false,false,false,false,false],Nat.zero_le _,rfl,rfl,Box.new _ _ _,rfl,(by repeat' (first | with_reducible (first | exact Below.refl _ _ | assumption | refine bdrewN ?_ _ | refine Below.alloc ?_ ?_ _ | refine Below.drew ?_ | refine Below.setCell ?_ ?_ _) | go_size))⟩
  case round =>
    obtain ⟨k,seen,hk,rfl,hs5,hbx,HE,hbk⟩:=hrel
    have hszk:=hbk.size
    by_cases hlt:k < l.length
    · have hx0:=(hbk.cell (p:=⟨g,f+k,none⟩) hg).trans (HC.out k hlt)
      have hgr:g < wr.heap.size:=by omega
      have HO:Hid ((l[k] < 0∨(l.length:Int)<=l[k]∨5<=l[k])->onceN l.length (l.drop k) seen=false):=fun h=>once_out hlt h
      have HT:Hid (seen.getD l[k].toNat false=true->onceN l.length (l.drop k) seen=false):=fun h=>once_twice hlt h
      have HX:Hid (¬ (l[k] < 0∨(l.length:Int)<=l[k]∨5<=l[k])->seen.getD l[k].toNat false=false->onceN l.length (l.drop k) seen=onceN l.length (l.drop (k+1)) (seen.set l[k].toNat true)):=fun h h2=>once_next hlt h h2
      generalize l[k]=x at *
      by_cases h0:x < 0
      · go_wp2
        go_ret
        exact ⟨by rw [HE.out,HO.out (Or.inl h0)];rfl,hbk⟩
      · obtain ⟨n,rfl⟩:=Int.eq_ofNat_of_zero_le (Int.not_lt.1 h0)
        by_cases h1:(l.length:Int)<=(n:Int)
        · go_wp2
          go_ret
          exact ⟨by rw [HE.out,HO.out (Or.inr (Or.inl h1))];rfl,hbk⟩
        · by_cases h5:(5:Int)<=(n:Int)
          · go_wp2
            go_ret
            exact ⟨by rw [HE.out,HO.out (Or.inr (Or.inr h5))];rfl,hbk⟩
          · have hn5:n < 5:=by omega
            obtain ⟨hc,hf⟩:=hbx.rules
            have hbl:=hbx.lt
            have hcn:wr.cell? ⟨w.heap.size,n,none⟩=some (.bool (seen.getD n false)):=by
              rw [hc];simp [hs5,hn5,List.getD_eq_getElem?_getD]
            have hset:=hbx.set n (.bool true)
            have HS:Hid (((seen.map Value.bool).toArray.setIfInBounds n (.bool true))=((seen.set n true).map Value.bool).toArray):=by simp [Hid,List.map_set]
            rw [HS.out] at hset
            simp only [Int.toNat_natCast] at HT HX
            clear hc
            generalize hq:seen.getD n false=b at *
            have HQ:Hid (seen.getD n false=b):=hq
            clear hq
            cases b with
            | true =>
              go_wp2
              go_ret
              exact ⟨by rw [HE.out,HT.out (by trivial)];rfl,hbk⟩
            | false =>
              go_wp2
              go_roundw
              case rel=>exact ⟨k+1,seen.set n true,by omega,by go_num,by simpa using hs5,hset,by rw [Hid,HE.out,HX.out (by omega) (by trivial)],hbk.setCell (by simp) _⟩
              case measure=>simp [intOf];omega
    · have HZ:Hid (onceN l.length (l.drop k) seen=true):=by rw [List.drop_eq_nil_of_le (by omega)];rfl
      go_wp2
      go_ret
      exact ⟨by rw [HE.out,HZ.out];rfl,hbk⟩
def orderOfB (c:PClause):Option (List Int)->Bool
  | none=>true
  | some l=>l.length == (plainVs c).length && onceB l
theorem orderOf_any (w:World) (c:PClause) (va vb ov:Value) (o:Option (List Int)) (hs:SIn lo w va c.head.args) (hb:LIn lo w vb c.body) (hl:c.head.args.length+sumArgs c.body<=1000) (hl2:c.body.length<=1000) (ho:OrdIn w ov o) (hol:(o.getD []).length<=2000000) :
    Calls Tryz.prog 112 #[.agg #[.bool c.head.neg,.string c.head.pred,va,vb],ov] w fun e w'=>e=.returned (.bool (orderOfB c o))/\Below w.heap.size w w':=by
  obtain ⟨ao,cap,rfl⟩:=hs.shape
  obtain ⟨aob,capb,rfl⟩:=hb.shape
  have HP:Hid (∀ W,Below w.heap.size w W->Calls Tryz.prog 148 #[.agg #[.bool c.head.neg,.string c.head.pred,.slice ao c.head.args.length cap,.slice aob c.body.length capb]] W fun e w'=>∃ nv,e=.returned (.agg #[nv])/\w'.ownsRow W.heap.size 9 1 nv (plainVs c).length ((plainVs c).map Value.string)/\Below W.heap.size W w'):=fun W hW=>plain_any W c _ _ (hs.below hW) (hb.below hW) hl hl2
  have hpl:(plainVs c).length<=1000:=by have:=plainV_len c.body [];unfold plainVs;simp at this;omega
  clear hs hb
  cases o with
  | none =>
    have h0:ov=.slice none 0 0:=ho
    subst h0
    have hnil:∀ W:World,(binOp .eql 24 (.slice none 0 0) (.slice none 0 0)).run Tryz.prog W=.ok (.bool true) W:=fun W=>by
      have:=run_equal_slice_nil W 24 3 none 0 0 Tryz.underlying24
      simp [binOp,this]
    go_enter Tryz.func112,Tryz.ntmps112
    go_wp2
    go_ret
    exact ⟨rfl,(by repeat' (first | with_reducible (first | exact Below.refl _ _ | assumption | refine bdrewN ?_ _ | refine Below.alloc ?_ ?_ _ | refine Below.drew ?_ | refine Below.setCell ?_ ?_ _) | go_size))⟩
  | some l =>
    have HO:Hid (∀ W,Below w.heap.size w W->Calls Tryz.prog 155 #[ov] W fun e w'=>e=.returned (.bool (onceB l))/\Below W.heap.size W w'):=fun W hW=>eachOnce_any W ov l (ho.below hW) hol
    have HE:Hid (orderOfB c (some l)=(l.length == (plainVs c).length && onceB l)):=rfl
    obtain ⟨g,f,capo,rfl,_,_⟩:=ho
    simp only [Option.getD_some] at hol
    have hnil:∀ W:World,(binOp .eql 24 (.slice (some ⟨g,f,none⟩) l.length capo) (.slice none 0 0)).run Tryz.prog W=.ok (.bool false) W:=fun W=>by
      have:=run_equal_slice_nil W 24 3 (some ⟨g,f,none⟩) l.length capo Tryz.underlying24
      simp [binOp,this]
    generalize plainVs c=vs at *
    generalize onceB l=ob at *
    by_cases he:l.length=vs.length
    · have hne:((l.length:Int) != (vs.length:Int))=false:=by rw [he];simp
      have HEQ:Hid (l.length=vs.length):=he
      clear he
      go_enter Tryz.func112,Tryz.ntmps112
      go_wp2_with (first | (go_at_call 148;refine (HP.out _ (by exact (by repeat' (first | with_reducible (first | exact Below.refl _ _ | assumption | refine bdrewN ?_ _ | refine Below.alloc ?_ ?_ _ | refine Below.drew ?_ | refine Below.setCell ?_ ?_ _) | go_size)))).mono ?_;rintro e w1 ⟨nv,rfl,hown,hb1⟩;obtain ⟨ao4,cap4,rfl⟩:=own_view hown;have hB1:Below w.heap.size w w1:=(bnext (by repeat' (first | with_reducible (first | exact Below.refl _ _ | assumption | refine bdrewN ?_ _ | refine Below.alloc ?_ ?_ _ | refine Below.drew ?_ | refine Below.setCell ?_ ?_ _) | go_size)) hb1 (Nat.le_refl _));have hz1:=hB1.size) | (go_at_call 146;refine (gvcount_any _ _ _ vs (by exact (Box.new _ _ _).rules.1 0) (by exact owns_below hown (by repeat' (first | with_reducible (first | exact Below.refl _ _ | assumption | refine bdrewN ?_ _ | refine Below.alloc ?_ ?_ _ | refine Below.drew ?_ | refine Below.setCell ?_ ?_ _) | go_size)))).mono ?_;rintro e w2 ⟨rfl,hww⟩;obtain rfl:=hww.symm) | (go_at_call 155;refine (HO.out _ (by exact (hB1.alloc hz1 _))).mono ?_;rintro e w3 ⟨rfl,hb3⟩))
      go_ret
      exact ⟨by rw [HE.out];simp [HEQ.out],bnext (hB1.alloc hz1 _) hb3 (Nat.le_refl _)⟩
    · have hne:((l.length:Int) != (vs.length:Int))=true:=by rw [bne_iff_ne];omega
      go_enter Tryz.func112,Tryz.ntmps112
      go_wp2_with (first | (go_at_call 148;refine (HP.out _ (by exact (by repeat' (first | with_reducible (first | exact Below.refl _ _ | assumption | refine bdrewN ?_ _ | refine Below.alloc ?_ ?_ _ | refine Below.drew ?_ | refine Below.setCell ?_ ?_ _) | go_size)))).mono ?_;rintro e w1 ⟨nv,rfl,hown,hb1⟩;obtain ⟨ao4,cap4,rfl⟩:=own_view hown;have hB1:Below w.heap.size w w1:=(bnext (by repeat' (first | with_reducible (first | exact Below.refl _ _ | assumption | refine bdrewN ?_ _ | refine Below.alloc ?_ ?_ _ | refine Below.drew ?_ | refine Below.setCell ?_ ?_ _) | go_size)) hb1 (Nat.le_refl _));have hz1:=hB1.size) | (go_at_call 146;refine (gvcount_any _ _ _ vs (by exact (Box.new _ _ _).rules.1 0) (by exact owns_below hown (by repeat' (first | with_reducible (first | exact Below.refl _ _ | assumption | refine bdrewN ?_ _ | refine Below.alloc ?_ ?_ _ | refine Below.drew ?_ | refine Below.setCell ?_ ?_ _) | go_size)))).mono ?_;rintro e w2 ⟨rfl,hww⟩;obtain rfl:=hww.symm))
      go_ret
      exact ⟨by rw [HE.out];simp [he],hB1.alloc hz1 _⟩
def ordersB (cs:List PClause):Option (List (Option (List Int)))->Bool
  | none=>true
  | some l=>l.length == cs.length && (cs.zip l).all fun x=>orderOfB x.1 x.2
theorem zip_all_step (cs:List PClause) (l:List (Option (List Int))) (h:l.length=cs.length) (k:Nat) (hk:k < cs.length):((cs.drop k).zip (l.drop k)).all (fun x=>orderOfB x.1 x.2)=(orderOfB cs[k] (l[k]'(by omega)) && ((cs.drop (k+1)).zip (l.drop (k+1))).all fun x=>orderOfB x.1 x.2):=by
  rw [List.drop_eq_getElem_cons hk,List.drop_eq_getElem_cons (l:=l) (i:=k) (by omega),List.zip_cons_cons,List.all_cons]
theorem orders_any (w:World) (cv ov:Value) (cs:List PClause) (os:Option (List (Option (List Int)))) (hc:CIn lo 171 w cv cs) (hok:∀ c∈cs,ClOK c) (hl:cs.length<=1000) (ho:OrdsIn w ov os) (hol:(os.getD []).length<=2000000) (hoi:∀ o∈os.getD [],(o.getD []).length<=2000000) :
    Calls Tryz.prog 71 #[cv,ov] w fun e w'=>e=.returned (.bool (ordersB cs os))/\Below w.heap.size w w':=by
  obtain ⟨aoc,capc,rfl⟩:=hc.shape
  cases os with
  | none =>
    have h0:ov=.slice none 0 0:=ho
    subst h0
    have hnil:∀ W:World,(binOp .eql 26 (.slice none 0 0) (.slice none 0 0)).run Tryz.prog W=.ok (.bool true) W:=fun W=>by
      have:=run_equal_slice_nil W 26 24 none 0 0 Tryz.underlying26
      simp [binOp,this]
    go_enter Tryz.func71,Tryz.ntmps71
    go_wp2
    go_ret
    exact ⟨rfl,(by repeat' (first | with_reducible (first | exact Below.refl _ _ | assumption | refine bdrewN ?_ _ | refine Below.alloc ?_ ?_ _ | refine Below.drew ?_ | refine Below.setCell ?_ ?_ _) | go_size))⟩
  | some l =>
    simp only [Option.getD_some] at hol hoi
    have HO:Hid (OrdsIn w ov (some l)):=ho
    have HCI:Hid (CIn lo 171 w (.slice aoc cs.length capc) cs):=hc
    have HE:Hid (ordersB cs (some l)=(l.length == cs.length && (cs.zip l).all fun x=>orderOfB x.1 x.2)):=rfl
    have HOI:Hid (∀ o∈l,(o.getD []).length<=2000000):=hoi
    have HOK:Hid (∀ c∈cs,ClOK c):=hok
    obtain ⟨g,f,capo,rfl,hg,_⟩:=ho
    have hnil:∀ W:World,(binOp .eql 26 (.slice (some ⟨g,f,none⟩) l.length capo) (.slice none 0 0)).run Tryz.prog W=.ok (.bool false) W:=fun W=>by
      have:=run_equal_slice_nil W 26 24 (some ⟨g,f,none⟩) l.length capo Tryz.underlying26
      simp [binOp,this]
    clear hc hoi hok
    by_cases hll:l.length=cs.length
    · have hne:((l.length:Int) != (cs.length:Int))=false:=by rw [hll];simp
      have HLL:Hid (l.length=cs.length):=hll
      have hle:l.length<=1000:=by omega
      have H0:Hid (ordersB cs (some l)=((cs.drop 0).zip (l.drop 0)).all fun x=>orderOfB x.1 x.2):=by rw [Hid,HE.out];simp [hll]
      clear hll HE
      go_enter Tryz.func71,Tryz.ntmps71
      go_wp2
      clear hne hnil
      go_loopw [16] (fun v16 wr=>∃ k:Nat,k<=cs.length/\v16=.int .i64 k/\Hid (ordersB cs (some l)=((cs.drop k).zip (l.drop k)).all fun x=>orderOfB x.1 x.2)/\Below w.heap.size w wr) (fun i _=>cs.length - (intOf i).toNat)
      case atStart=>exact ⟨0,Nat.zero_le _,rfl,H0,(by repeat' (first | with_reducible (first | exact Below.refl _ _ | assumption | refine bdrewN ?_ _ | refine Below.alloc ?_ ?_ _ | refine Below.drew ?_ | refine Below.setCell ?_ ?_ _) | go_size))⟩
      case round =>
        clear H0
        obtain ⟨k,hk,rfl,HE,hbk⟩:=hrel
        have hszk:=hbk.size
        by_cases hlt:k < cs.length
        · have hkl:k < l.length:=by rw [HLL.out];exact hlt
          obtain ⟨g0,ao2,cap2,ao3,cap3,rfl,hg0,hd0,hd1,hd2,hd3,hsk,hlk⟩:=HCI.out.cell k hlt
          obtain ⟨hk1,hk2⟩:=HOK.out cs[k] (List.getElem_mem hlt)
          obtain ⟨_,_,u,hao,_,hu,hui⟩:=HO.out.cell k hkl
          simp only [Option.some.injEq,Addr.mk.injEq,and_true] at hao
          obtain ⟨rfl,rfl⟩:=hao
          have hlo:=HOI.out l[k] (List.getElem_mem hkl)
          have HOO:Hid (∀ W,Below w.heap.size w W->Calls Tryz.prog 112 #[.agg #[.bool cs[k].head.neg,.string cs[k].head.pred,.slice ao2 cs[k].head.args.length cap2,.slice ao3 cs[k].body.length cap3],u] W fun e w'=>e=.returned (.bool (orderOfB cs[k] l[k]))/\Below W.heap.size W w'):=fun W hW=>orderOf_any W cs[k] _ _ u l[k] (hsk.below hW) (hlk.below hW) hk1 hk2 (hui.below hW) hlo
          have HST:Hid (((cs.drop k).zip (l.drop k)).all (fun x=>orderOfB x.1 x.2)=(orderOfB cs[k] l[k] && ((cs.drop (k+1)).zip (l.drop (k+1))).all fun x=>orderOfB x.1 x.2)):=zip_all_step cs l HLL.out k hlt
          have e0:=(hbk.cell (p:=⟨g0,k * 4,none⟩) hg0).trans hd0
          have e1:=(hbk.cell (p:=⟨g0,k * 4+1,none⟩) hg0).trans hd1
          have e2:=(hbk.cell (p:=⟨g0,k * 4+2,none⟩) hg0).trans hd2
          have e3:=(hbk.cell (p:=⟨g0,k * 4+3,none⟩) hg0).trans hd3
          have eu:=(hbk.cell (p:=⟨g,f+k,none⟩) hg).trans hu
          have hgr0:g0 < wr.heap.size:=by omega
          have hgr:g < wr.heap.size:=by omega
          clear hd0 hd1 hd2 hd3 hu hui hsk hlk hk1 hk2 hlo
          generalize cs[k]=c at *
          generalize orderOfB c l[k]=b at *
          have hbn:=Box.new wr #[.bool c.head.neg,.string c.head.pred,.slice ao2 c.head.args.length cap2,.slice ao3 c.body.length cap3] 171
          cases b with
          | true =>
            go_wp2
            go_region_held3 (fun w'=>w'.cell? ⟨wr.heap.size,0,none⟩=some (.bool c.head.neg)/\w'.cell? ⟨wr.heap.size,1,none⟩=some (.string c.head.pred)/\w'.cell? ⟨wr.heap.size,2,none⟩=some (.slice ao2 c.head.args.length cap2)/\w'.cell? ⟨wr.heap.size,3,none⟩=some (.slice ao3 c.body.length cap3)/\w'.cell? ⟨g,f+k,none⟩=some u) (first | go_keep | (go_split_ands;refine ⟨?_,?_,?_,?_,?_⟩ <;> go_keep)) (first | (go_at_call 112;refine (HOO.out _ (by exact (bnext hbk (by repeat' (first | with_reducible (first | exact Below.refl _ _ | assumption | refine bdrewN ?_ _ | refine Below.alloc ?_ ?_ _ | refine Below.drew ?_ | refine Below.setCell ?_ ?_ _) | go_size)) (Nat.le_refl _)))).mono ?_;rintro e w4 ⟨rfl,hb4⟩;have hB4:Below wr.heap.size wr w4:=(bnext (by repeat' (first | with_reducible (first | exact Below.refl _ _ | assumption | refine bdrewN ?_ _ | refine Below.alloc ?_ ?_ _ | refine Below.drew ?_ | refine Below.setCell ?_ ?_ _) | go_size)) hb4 (Nat.le_refl _));have hn4:=hbn.below (by first | exact hb4 | exact (bdrewN (Below.refl _ _) _).trans hb4);obtain ⟨hn4c,hn4f⟩:=hn4.rules;have eu4:=(hB4.cell (p:=⟨g,f+k,none⟩) hgr).trans eu))
            go_wp2
            go_roundw
            case rel=>exact ⟨k+1,by omega,by go_num,by rw [Hid,HE.out,HST.out];simp,bnext hbk hB4 (Nat.le_refl _)⟩
            case measure=>simp [intOf];omega
          | false =>
            go_wp2
            go_region_held3 (fun w'=>w'.cell? ⟨wr.heap.size,0,none⟩=some (.bool c.head.neg)/\w'.cell? ⟨wr.heap.size,1,none⟩=some (.string c.head.pred)/\w'.cell? ⟨wr.heap.size,2,none⟩=some (.slice ao2 c.head.args.length cap2)/\w'.cell? ⟨wr.heap.size,3,none⟩=some (.slice ao3 c.body.length cap3)/\w'.cell? ⟨g,f+k,none⟩=some u) (first | go_keep | (go_split_ands;refine ⟨?_,?_,?_,?_,?_⟩ <;> go_keep)) (first | (go_at_call 112;refine (HOO.out _ (by exact (bnext hbk (by repeat' (first | with_reducible (first | exact Below.refl _ _ | assumption | refine bdrewN ?_ _ | refine Below.alloc ?_ ?_ _ | refine Below.drew ?_ | refine Below.setCell ?_ ?_ _) | go_size)) (Nat.le_refl _)))).mono ?_;rintro e w4 ⟨rfl,hb4⟩;have hB4:Below wr.heap.size wr w4:=(bnext (by repeat' (first | with_reducible (first | exact Below.refl _ _ | assumption | refine bdrewN ?_ _ | refine Below.alloc ?_ ?_ _ | refine Below.drew ?_ | refine Below.setCell ?_ ?_ _) | go_size)) hb4 (Nat.le_refl _));have hn4:=hbn.below (by first | exact hb4 | exact (bdrewN (Below.refl _ _) _).trans hb4);obtain ⟨hn4c,hn4f⟩:=hn4.rules;have eu4:=(hB4.cell (p:=⟨g,f+k,none⟩) hgr).trans eu))
            go_wp2
            go_ret
            exact ⟨by rw [HE.out,HST.out];rfl,bnext hbk hB4 (Nat.le_refl _)⟩
        · have HZ:Hid (ordersB cs (some l)=true):=by rw [Hid,HE.out,List.drop_eq_nil_of_le (by omega)];rfl
          go_wp2
          go_ret
          exact ⟨by rw [HZ.out];rfl,hbk⟩
    · have hne:((l.length:Int) != (cs.length:Int))=true:=by rw [bne_iff_ne];omega
      have H0:Hid (ordersB cs (some l)=false):=by rw [Hid,HE.out];simp [hll]
      go_enter Tryz.func71,Tryz.ntmps71
      go_wp2
      go_ret
      exact ⟨by rw [H0.out];rfl,(by repeat' (first | with_reducible (first | exact Below.refl _ _ | assumption | refine bdrewN ?_ _ | refine Below.alloc ?_ ?_ _ | refine Below.drew ?_ | refine Below.setCell ?_ ?_ _) | go_size))⟩
end Go.Proofs.YteampbddflhngaaGreat
