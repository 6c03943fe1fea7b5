import Derived.Test.YteampbddflhngabGreatJ05

namespace Go.Proofs.YteampbddflhngabGreat
set_option maxRecDepth 100000
set_option maxHeartbeats 1000000
open Go.RowKit
variable {lo:Nat}
theorem CIn.cell{T:TypeId}{w:World}{ao:Option Addr}{n cap:Nat}{cs:List zac}(h:CIn lo T w (.slice ao n cap) cs)(k:Nat)(hk:k < cs.length):∃ g ao2 cap2 ao3 cap3,ao=some ⟨g,0,none⟩/\g < w.heap.size ∧
  w.cell? ⟨g,k * 4,none⟩=some (.bool cs[k].head.neg)/\w.cell? ⟨g,k * 4+1,none⟩=some (.string cs[k].head.pred)/\w.cell? ⟨g,k * 4+2,none⟩=some (.slice ao2 cs[k].head.args.length cap2) ∧
  w.cell? ⟨g,k * 4+3,none⟩=some (.slice ao3 cs[k].body.length cap3)/\SIn lo w (.slice ao2 cs[k].head.args.length cap2) cs[k].head.args/\LIn lo w (.slice ao3 cs[k].body.length cap3) cs[k].body:=by
 obtain⟨xs,ho,hc⟩:=h
 obtain⟨g,cap',hv,_,hg,hcl⟩:=zas ho (by omega)
 simp at hv
 obtain⟨va,vb,a1,a2,a3,a4,a5,a6⟩:=hc.at k cs[k] (by simp[hk])
 obtain⟨ao2,cap2,rfl⟩:=a5.shape
 obtain⟨ao3,cap3,rfl⟩:=a6.shape
 exact⟨g,ao2,cap2,ao3,cap3,hv.1,hg,hcl _ _ a1,hcl _ _ a2,hcl _ _ a3,hcl _ _ a4,a5,a6⟩
def zoe(c:zac):Prop:=c.head.args.length+zb9 c.body<=1000/\c.body.length<=1000
theorem zku(w:World)(v:Value)(cs:List zac)(hcs:CIn lo 90 w v cs)(hok:∀ c∈cs,zoe c)(hl:cs.length<=1000) :
  Calls Tryz.prog 39 #[v] w fun e w'=>e=.returned (.bool (cs.any zed))/\Below w.heap.size w w':=by
 obtain⟨ao,cap,rfl⟩:=hcs.shape
 have HOK:Hid (∀ c∈cs,zoe c):=hok
 clear hok
 go_enter Tryz.func39,Tryz.ntmps39
 go_wp2
 go_loopw [7] (fun i wr=>∃ k:Nat,k<=cs.length/\i=.int .i64 k/\Below w.heap.size w wr/\Hid (cs.any zed=(cs.drop k).any zed)) (fun i _=>cs.length - (intOf i).toNat)
 case atStart=>exact⟨0,Nat.zero_le _,rfl,Below.refl _ _,rfl⟩
 case round =>
  obtain⟨k,hk,rfl,hbk,H⟩:=hrel
  have hszk:=hbk.size
  by_cases hlt:k < cs.length
  ·have hdr:=zwb cs zed k hlt
   obtain⟨g,ao2,cap2,ao3,cap3,rfl,hg,hc0,hc1,hc2,hc3,hsk,hlk⟩:=hcs.cell k hlt
   have hd0:=(hbk.cell (p:=⟨g,k * 4,none⟩) hg).trans hc0
   have hd1:=(hbk.cell (p:=⟨g,k * 4+1,none⟩) hg).trans hc1
   have hd2:=(hbk.cell (p:=⟨g,k * 4+2,none⟩) hg).trans hc2
   have hd3:=(hbk.cell (p:=⟨g,k * 4+3,none⟩) hg).trans hc3
   have hgr:g < wr.heap.size:=by omega
   have hskr:=hsk.below hbk
   have hlkr:=hlk.below hbk
   obtain⟨hk1,hk2⟩:=HOK.out _ (List.getElem_mem hlt)
   clear hc0 hc1 hc2 hc3 hsk hlk
   generalize cs[k]=a at *
   have HD:Hid (cs.any zed=(zed a || (cs.drop (k+1)).any zed)):=by rw[Hid,H.out,hdr]
   clear hdr H
   cases hM:zed a with
   |true =>
    have HR:Hid (cs.any zed=true):=by rw[Hid,HD.out,hM];rfl
    clear HD
    go_wp2_with (first|(go_at_call 62;refine(zpj _ a _ _ (by exact hskr.below (by go_grown)) (by exact hlkr.below (by go_grown)) hk1 hk2).mono ?_;rintro e w1 ⟨rfl,hb1⟩;have hB1:=zae ((Below.refl wr.heap.size wr).alloc (Nat.le_refl _) _) hb1 (Nat.le_refl _)))
    go_ret
    exact⟨by rw[HR.out];rfl,zae hbk hB1 (Nat.le_refl _)⟩
   |false =>
    have HR:Hid (cs.any zed=(cs.drop (k+1)).any zed):=by rw[Hid,HD.out,hM];rfl
    clear HD
    go_wp2_with (first|(go_at_call 62;refine(zpj _ a _ _ (by exact hskr.below (by go_grown)) (by exact hlkr.below (by go_grown)) hk1 hk2).mono ?_;rintro e w1 ⟨rfl,hb1⟩;have hB1:=zae ((Below.refl wr.heap.size wr).alloc (Nat.le_refl _) _) hb1 (Nat.le_refl _)))
    go_roundw
    case rel=>exact⟨k+1,by omega,by go_num,zae hbk hB1 (Nat.le_refl _),HR⟩
    case measure=>simp[intOf];omega
  ·have HR:Hid (cs.any zed=false):=by rw[Hid,H.out,List.drop_eq_nil_of_le (by omega)];rfl
   clear H
   go_wp2
   go_ret
   exact⟨by rw[HR.out];rfl,hbk⟩
theorem zq6(w:World)(v:Value)(cs:List zac)(hcs:CIn lo 90 w v cs)(hok:∀ c∈cs,zoe c)(hl:cs.length<=1000) :
  Calls Tryz.prog 41 #[v] w fun e w'=>e=.returned (.bool (cs.all ze7))/\Below w.heap.size w w':=by
 obtain⟨ao,cap,rfl⟩:=hcs.shape
 have HOK:Hid (∀ c∈cs,zoe c):=hok
 clear hok
 go_enter Tryz.func41,Tryz.ntmps41
 go_wp2
 go_loopw [7] (fun i wr=>∃ k:Nat,k<=cs.length/\i=.int .i64 k/\Below w.heap.size w wr/\Hid (cs.all ze7=(cs.drop k).all ze7)) (fun i _=>cs.length - (intOf i).toNat)
 case atStart=>exact⟨0,Nat.zero_le _,rfl,Below.refl _ _,rfl⟩
 case round =>
  obtain⟨k,hk,rfl,hbk,H⟩:=hrel
  have hszk:=hbk.size
  by_cases hlt:k < cs.length
  ·have hdr:=zqk cs ze7 k hlt
   obtain⟨g,ao2,cap2,ao3,cap3,rfl,hg,hc0,hc1,hc2,hc3,hsk,hlk⟩:=hcs.cell k hlt
   have hd0:=(hbk.cell (p:=⟨g,k * 4,none⟩) hg).trans hc0
   have hd1:=(hbk.cell (p:=⟨g,k * 4+1,none⟩) hg).trans hc1
   have hd2:=(hbk.cell (p:=⟨g,k * 4+2,none⟩) hg).trans hc2
   have hd3:=(hbk.cell (p:=⟨g,k * 4+3,none⟩) hg).trans hc3
   have hgr:g < wr.heap.size:=by omega
   have hskr:=hsk.below hbk
   have hlkr:=hlk.below hbk
   obtain⟨hk1,hk2⟩:=HOK.out _ (List.getElem_mem hlt)
   clear hc0 hc1 hc2 hc3 hsk hlk
   generalize cs[k]=a at *
   have HD:Hid (cs.all ze7=(ze7 a && (cs.drop (k+1)).all ze7)):=by rw[Hid,H.out,hdr]
   clear hdr H
   cases hM:ze7 a with
   |false =>
    have HR:Hid (cs.all ze7=false):=by rw[Hid,HD.out,hM];rfl
    clear HD
    go_wp2_with (first|(go_at_call 64;refine(zp2 _ a _ _ (by exact hskr.below (by go_grown)) (by exact hlkr.below (by go_grown)) hk1 hk2).mono ?_;rintro e w1 ⟨rfl,hb1⟩;have hB1:=zae ((Below.refl wr.heap.size wr).alloc (Nat.le_refl _) _) hb1 (Nat.le_refl _)))
    go_ret
    exact⟨by rw[HR.out];rfl,zae hbk hB1 (Nat.le_refl _)⟩
   |true =>
    have HR:Hid (cs.all ze7=(cs.drop (k+1)).all ze7):=by rw[Hid,HD.out,hM];rfl
    clear HD
    go_wp2_with (first|(go_at_call 64;refine(zp2 _ a _ _ (by exact hskr.below (by go_grown)) (by exact hlkr.below (by go_grown)) hk1 hk2).mono ?_;rintro e w1 ⟨rfl,hb1⟩;have hB1:=zae ((Below.refl wr.heap.size wr).alloc (Nat.le_refl _) _) hb1 (Nat.le_refl _)))
    go_roundw
    case rel=>exact⟨k+1,by omega,by go_num,zae hbk hB1 (Nat.le_refl _),HR⟩
    case measure=>simp[intOf];omega
  ·have HR:Hid (cs.all ze7=true):=by rw[Hid,H.out,List.drop_eq_nil_of_le (by omega)];rfl
   clear H
   go_wp2
   go_ret
   exact⟨by rw[HR.out];rfl,hbk⟩
end Go.Proofs.YteampbddflhngabGreat
namespace Go.Proofs.YteampbddflhngabGreat
set_option maxRecDepth 100000
set_option maxHeartbeats 1000000
open Go.RowKit
structure zav where
 name:ByteArray
 arity:Nat
 stratum:Nat
def ltB(a b:ByteArray):Bool:=Op.bytesLess a.toList b.toList
def zaj:List zav->ByteArray->Nat
 |[],_=>0
 |e::r,n=>if ltB e.name n then zaj r n+1 else 0
theorem zfd:∀(t:List zav) (n:ByteArray),zaj t n<=t.length
 |[],_=>Nat.le_refl _
 |e::r,n=>by have:=zfd r n;unfold zaj;split <;> simp <;> omega
theorem zj2:∀(t:List zav) (n:ByteArray) (k:Nat),(∀ j (hj:j < t.length),j < k->ltB t[j].name n=true)->k<=t.length->zaj t n=k+zaj (t.drop k) n
 |[],n,k,_,hk=>by simp at hk;subst hk;simp
 |e::r,n,0,_,_=>by simp
 |e::r,n,k+1,h,hk=>by
  have h0:=h 0 (by simp) (by omega)
  simp at h0
  have:=zj2 r n k (fun j hj hjk=>by have:=h (j+1) (by simpa using hj) (by omega);simpa using this) (by simpa using hk)
  simp[zaj,h0];omega
theorem znt(t:List zav)(n:ByteArray)(k:Nat)(h:∀ j (hj:j < t.length),j < k->ltB t[j].name n=true)(hk:k < t.length)(hn:ltB t[k].name n=false):zaj t n=k:=by
 rw[zj2 t n k h (by omega),List.drop_eq_getElem_cons hk,zaj,hn];rfl
theorem zpt(t:List zav)(n:ByteArray)(h:∀ j (hj:j < t.length),ltB t[j].name n=true):zaj t n=t.length:=by
 rw[zj2 t n t.length (fun j hj _=>h j hj) (Nat.le_refl _)];simp[zaj]
def zck(t:List zav):List Value:=t.flatMap fun e=>[.string e.name,.int .i64 (e.arity:Int),.int .i64 (e.stratum:Int)]
theorem zlo(t:List zav):(zck t).length=t.length * 3:=by
 induction t with
 |nil=>rfl
 |cons a t ih=>simp[zck] at ih ⊢;omega
theorem zti:∀(t:List zav) (k:Nat) (hk:k < t.length),(zck t)[k * 3]?=some (.string t[k].name)/\(zck t)[k * 3+1]?=some (.int .i64 (t[k].arity:Int))/\(zck t)[k * 3+2]?=some (.int .i64 (t[k].stratum:Int))
 |[],k,hk=>by simp at hk
 |e::r,0,_=>by simp[zck]
 |e::r,k+1,hk=>by
  have:=zti r k (by simpa using hk)
  simp only[zck,List.flatMap_cons] at this ⊢
  rw[show(k+1) * 3=k * 3+1+1+1 from by omega,show k * 3+1+1+1+1=k * 3+1+1+1+1 from rfl,show k * 3+1+1+1+2=k * 3+2+1+1+1 from by omega]
  simpa using this
def TA(B:Nat)(w:World)(tb:Nat)(t:List zav):Prop:=∃ pv,Box w tb #[pv] 84/\w.ownsRow B 138 3 pv t.length (zck t)
theorem TA.below{B:Nat}{w w':World}{tb:Nat}{t:List zav}(h:TA B w tb t)(hb:Below w.heap.size w w'):TA B w' tb t:=by
 obtain⟨nv,h1,h2⟩:=h;exact⟨nv,h1.below hb,zaa h2 hb⟩
theorem TA.view{B:Nat}{w:World}{tb:Nat}{t:List zav}(h:TA B w tb t):∃ ao cap,Box w tb #[.slice ao t.length cap] 84/\w.ownsRow B 138 3 (.slice ao t.length cap) t.length (zck t):=by
 obtain⟨nv,h1,h2⟩:=h
 obtain⟨ao,cap,rfl⟩:=zab h2
 exact⟨ao,cap,h1,h2⟩
theorem zdu{B:Nat}{w:World}{ao:Option Addr}{n cap:Nat}{t:List zav}(h:w.ownsRow B 138 3 (.slice ao n cap) t.length (zck t))(k:Nat)(hk:k < t.length):∃ g,ao=some ⟨g,0,none⟩/\g < w.heap.size/\B<=g ∧
  w.cell? ⟨g,k * 3,none⟩=some (.string t[k].name)/\w.cell? ⟨g,k * 3+1,none⟩=some (.int .i64 (t[k].arity:Int))/\w.cell? ⟨g,k * 3+2,none⟩=some (.int .i64 (t[k].stratum:Int)):=by
 obtain⟨g,cap',hv,hB,hg,hcl⟩:=zas h (by omega)
 simp at hv
 obtain⟨a1,a2,a3⟩:=zti t k hk
 exact⟨g,hv.1,hg,hB,hcl _ _ a1,hcl _ _ a2,hcl _ _ a3⟩
theorem zk0(B:Nat)(w:World)(tb:Nat)(t:List zav)(n:ByteArray)(h:TA B w tb t)(hl:t.length<=1000) :
  Calls Tryz.prog 78 #[.pointer (some ⟨tb,0,none⟩),.string n] w fun e w'=>e=.returned (.int .i64 (zaj t n))/\w'=w:=by
 obtain⟨ao,cap,hbx,hown⟩:=h.view
 obtain⟨hc,hf⟩:=hbx.rules
 clear h
 go_enter Tryz.func78,Tryz.ntmps78
 go_wp2
 go_loop [5] (fun i=>∃ k:Nat,k<=t.length/\i=.int .i64 k/\Hid (∀ j (hj:j < t.length),j < k->ltB t[j].name n=true)) (fun i=>t.length - (intOf i).toNat)
 case atStart=>exact⟨0,Nat.zero_le _,rfl,fun j hj h=>by omega⟩
 case round =>
  obtain⟨k,hk,rfl,H⟩:=hrel
  by_cases hlt:k < t.length
  ·obtain⟨g,rfl,hg,_,hd0,_,_⟩:=zdu hown k hlt
   cases hL:ltB t[k].name n with
   |true =>
    have H2:Hid (∀ j (hj:j < t.length),j < k+1->ltB t[j].name n=true):=fun j hj h=>by
     rcases Nat.lt_or_ge j k with h'|h'
     ·exact H.out j hj h'
     ·obtain rfl:j=k:=by omega
      exact hL
    unfold ltB at hL
    generalize t[k].name=x at *
    clear H
    go_wp2
    go_round
    case rel=>exact⟨k+1,by omega,by go_num,H2⟩
    case measure=>simp[intOf];omega
   |false =>
    have H2:Hid (zaj t n=k):=znt t n k H.out hlt hL
    unfold ltB at hL
    generalize t[k].name=x at *
    clear H
    go_wp2
    go_ret
    exact⟨by rw[H2.out];rfl,rfl⟩
  ·have H2:Hid (zaj t n=k):=by
    have:=zpt t n (fun j hj=>H.out j hj (by omega));unfold Hid;omega
   clear H
   go_wp2
   go_ret
   exact⟨by rw[H2.out];rfl,rfl⟩
theorem zby{w:World}{base:Nat}{e:TypeId}{size:Nat}{g n cap:Nat}{m:Nat}{xs:List Value}(h:w.ownsRow base e size (.slice (some ⟨g,0,none⟩) n cap) m xs)(o:Nat):w.frozen? ⟨g,o,none⟩=false:=by
 obtain⟨_,⟨hv,_⟩|⟨g',cap',cur,hv,_,hh,_⟩⟩:=h
 ·cases hv
 ·simp at hv;obtain⟨rfl,_⟩:=hv;unfold World.frozen?;rw[hh];simp
theorem zb7{w:World}{base:Nat}{e:TypeId}{size:Nat}{g n cap:Nat}{m:Nat}{xs:List Value}(h:w.ownsRow base e size (.slice (some ⟨g,0,none⟩) n cap) m xs)(j:Nat)(_:j < xs.length)(u:Value) :
  (w.setCell ⟨g,j,none⟩ u).ownsRow base e size (.slice (some ⟨g,0,none⟩) n cap) m (xs.set j u):=by
 obtain⟨hl,⟨hv,_⟩|⟨g',cap',cur,hv,hg,hh,h1,h2,h3,h4⟩⟩:=h
 ·cases hv
 ·simp at hv;obtain⟨rfl,rfl,rfl⟩:=hv
  refine⟨by simpa using hl,Or.inr ⟨g,cap,cur.setIfInBounds j u,rfl,hg,?_,h1,h2,by simpa using h3,?_⟩⟩
  ·simp[World.setCell,Array.getElem?_modify,hh]
  ·rw[← h4]
   rw[Array.toList_setIfInBounds,List.take_set]
def zbu(t:List zav)(n:ByteArray):Option zav:=match t[zaj t n]? with
 |none=>none
 |some e=>if e.name=n then some e else none
theorem zcd{t:List zav}{n:ByteArray}{e:zav}(h:zbu t n=some e):∃ hk:zaj t n < t.length,t[zaj t n]=e/\e.name=n:=by
 unfold zbu at h
 split at h
 ·cases h
 ·rename_i e' he
  split at h <;> simp at h
  subst h
  obtain⟨hk,he⟩:=List.getElem?_eq_some_iff.1 he
  exact⟨hk,he,by assumption⟩
theorem ziz{t:List zav}{n:ByteArray}(h:zbu t n=none):¬ zaj t n < t.length∨∃ hk:zaj t n < t.length,t[zaj t n].name≠n:=by
 unfold zbu at h
 split at h
 ·rename_i he;left;rw[List.getElem?_eq_none_iff] at he;omega
 ·rename_i e he
  split at h <;> simp at h
  obtain⟨hk,he⟩:=List.getElem?_eq_some_iff.1 he
  right;exact⟨hk,by rw[he];assumption⟩
theorem zw9(B:Nat)(w:World)(tb:Nat)(t:List zav)(n:ByteArray)(h:TA B w tb t)(hl:t.length<=1000)(hn:zbu t n=none) :
  Calls Tryz.prog 50 #[.pointer (some ⟨tb,0,none⟩),.string n] w fun e w'=>e=.returned (.tuple #[.int .i64 0,.bool false])/\w'=w:=by
 have hpl:=zk0 B w tb t n h hl
 obtain⟨ao,cap,hbx,hown⟩:=h.view
 obtain⟨hc,hf⟩:=hbx.rules
 have HPL:Hid (Calls Tryz.prog 78 #[.pointer (some ⟨tb,0,none⟩),.string n] w fun e w'=>e=.returned (.int .i64 (zaj t n))/\w'=w):=hpl
 have hle:=zfd t n
 clear h hpl
 rcases ziz hn with hk|⟨hk,hne⟩
 ·clear hn
  generalize zaj t n=k at *
  go_enter Tryz.func50,Tryz.ntmps50
  go_wp2_with (first|(go_at_call 78;refine HPL.out.mono ?_;rintro e w' ⟨rfl,rfl⟩;clear HPL))
  go_ret2
  exact⟨rfl,rfl⟩
 ·obtain⟨g,rfl,hg,_,hd0,_,_⟩:=zdu hown _ hk
  have he:=zf3 hne
  clear hn hne
  generalize t[zaj t n].name=x at *
  generalize zaj t n=k at *
  go_enter Tryz.func50,Tryz.ntmps50
  go_wp2_with (first|(go_at_call 78;refine HPL.out.mono ?_;rintro e w' ⟨rfl,rfl⟩;clear HPL))
  go_ret2
  exact⟨rfl,rfl⟩
theorem ztw(B:Nat)(w:World)(tb:Nat)(t:List zav)(n:ByteArray)(e0:zav)(h:TA B w tb t)(hl:t.length<=1000)(hn:zbu t n=some e0) :
  Calls Tryz.prog 50 #[.pointer (some ⟨tb,0,none⟩),.string n] w fun e w'=>e=.returned (.tuple #[.int .i64 (zaj t n),.bool true])/\w'=w:=by
 have hpl:=zk0 B w tb t n h hl
 obtain⟨ao,cap,hbx,hown⟩:=h.view
 obtain⟨hc,hf⟩:=hbx.rules
 have HPL:Hid (Calls Tryz.prog 78 #[.pointer (some ⟨tb,0,none⟩),.string n] w fun e w'=>e=.returned (.int .i64 (zaj t n))/\w'=w):=hpl
 have hle:=zfd t n
 clear h hpl
 obtain⟨hk,hee,hnn⟩:=zcd hn
 obtain⟨g,rfl,hg,_,hd0,_,hd2⟩:=zdu hown _ hk
 rw[hee] at hd0 hd2
 have he:=zg4 hnn
 clear hn hnn hee
 generalize e0.name=x at *
 generalize zaj t n=k at *
 go_enter Tryz.func50,Tryz.ntmps50
 go_wp2_with (first|(go_at_call 78;refine HPL.out.mono ?_;rintro e w' ⟨rfl,rfl⟩;clear HPL))
 go_ret2
 exact⟨rfl,rfl⟩
theorem zv3(B:Nat)(w:World)(tb:Nat)(t:List zav)(n:ByteArray)(h:TA B w tb t)(hl:t.length<=1000)(hn:zbu t n=none) :
  Calls Tryz.prog 56 #[.pointer (some ⟨tb,0,none⟩),.string n] w fun e w'=>e=.returned (.tuple #[.int .i64 0,.bool false])/\w'=w:=by
 have HF:Hid (Calls Tryz.prog 50 #[.pointer (some ⟨tb,0,none⟩),.string n] w fun e w'=>e=.returned (.tuple #[.int .i64 0,.bool false])/\w'=w):=zw9 B w tb t n h hl hn
 clear h hn hl
 go_enter Tryz.func56,Tryz.ntmps56
 go_wp2_with (first|(go_at_call 50;refine HF.out.mono ?_;rintro e w' ⟨rfl,rfl⟩;clear HF))
 go_ret2
 exact⟨rfl,rfl⟩
theorem zl7(B:Nat)(w:World)(tb:Nat)(t:List zav)(n:ByteArray)(e0:zav)(h:TA B w tb t)(hl:t.length<=1000)(hn:zbu t n=some e0) :
  Calls Tryz.prog 56 #[.pointer (some ⟨tb,0,none⟩),.string n] w fun e w'=>e=.returned (.tuple #[.int .i64 e0.stratum,.bool true])/\w'=w:=by
 have HF:Hid (Calls Tryz.prog 50 #[.pointer (some ⟨tb,0,none⟩),.string n] w fun e w'=>e=.returned (.tuple #[.int .i64 (zaj t n),.bool true])/\w'=w):=ztw B w tb t n e0 h hl hn
 obtain⟨ao,cap,hbx,hown⟩:=h.view
 obtain⟨hc,hf⟩:=hbx.rules
 obtain⟨hk,hee,hnn⟩:=zcd hn
 obtain⟨g,rfl,hg,_,hd0,_,hd2⟩:=zdu hown _ hk
 rw[hee] at hd2
 clear hn hnn hee h hd0
 generalize zaj t n=k at *
 go_enter Tryz.func56,Tryz.ntmps56
 go_wp2_with (first|(go_at_call 50;refine HF.out.mono ?_;rintro e w' ⟨rfl,rfl⟩;clear HF))
 go_ret2
 exact⟨rfl,rfl⟩
theorem zps:∀(t:List zav) (k:Nat) (e:zav) (hk:k < t.length),t[k].name=e.name->t[k].arity=e.arity->(zck t).set (k * 3+2) (.int .i64 (e.stratum:Int))=zck (t.set k e)
 |[],k,_,hk,_,_=>by simp at hk
 |a::r,0,e,_,h1,h2=>by simp at h1 h2;simp[zck,h1,h2]
 |a::r,k+1,e,hk,h1,h2=>by
  have:=zps r k e (by simpa using hk) (by simpa using h1) (by simpa using h2)
  simp only[zck,List.flatMap_cons,List.set_cons_succ] at this ⊢
  rw[show(k+1) * 3+2=k * 3+2+1+1+1 from by omega]
  simpa using this
def zb8(t:List zav)(n:ByteArray)(s:Nat):List zav × Bool:=match zbu t n with
 |none=>(t,false)
 |some e=>if s<=e.stratum then(t,false) else(t.set (zaj t n) { e with stratum:=s },true)
theorem zyv(t:List zav)(n:ByteArray)(s:Nat):(zb8 t n s).1.length=t.length:=by
 unfold zb8;split
 ·rfl
 ·split <;> simp
theorem raise_any(B:Nat)(w:World)(tb:Nat)(t:List zav)(n:ByteArray)(s:Nat)(h:TA B w tb t)(hl:t.length<=1000)(_:s<=3000000) :
  Calls Tryz.prog 96 #[.pointer (some ⟨tb,0,none⟩),.string n,.int .i64 s] w fun e w'=>e=.returned (.bool (zb8 t n s).2)/\TA B w' tb (zb8 t n s).1/\Below B w w':=by
 obtain⟨ao,cap,hbx,hown⟩:=h.view
 obtain⟨hc,hf⟩:=hbx.rules
 have hle:=zfd t n
 have HT:Hid (TA B w tb t):=h
 cases hn:zbu t n with
 |none =>
  have HR:Hid (zb8 t n s=(t,false)):=by unfold Hid zb8;rw[hn]
  have HF:Hid (Calls Tryz.prog 50 #[.pointer (some ⟨tb,0,none⟩),.string n] w fun e w'=>e=.returned (.tuple #[.int .i64 0,.bool false])/\w'=w):=zw9 B w tb t n h hl hn
  rw[HR.out]
  clear hn HR h
  go_enter Tryz.func96,Tryz.ntmps96
  go_wp2_with (first|(go_at_call 50;refine HF.out.mono ?_;rintro e w' ⟨rfl,rfl⟩;clear HF))
  go_ret
  exact⟨rfl,HT,Below.refl _ _⟩
 |some e0 =>
  have HF:Hid (Calls Tryz.prog 50 #[.pointer (some ⟨tb,0,none⟩),.string n] w fun e w'=>e=.returned (.tuple #[.int .i64 (zaj t n),.bool true])/\w'=w):=ztw B w tb t n e0 h hl hn
  obtain⟨hk,hee,hnn⟩:=zcd hn
  obtain⟨g,rfl,hg,hBg,hd0,_,hd2⟩:=zdu hown _ hk
  have hfz:=zby hown
  by_cases hse:s<=e0.stratum
  ·have HR:Hid (zb8 t n s=(t,false)):=by unfold Hid zb8;rw[hn];simp[hse]
   rw[HR.out]
   rw[hee] at hd0 hd2
   clear hn hnn HR hee h hd0
   generalize zaj t n=k at *
   go_enter Tryz.func96,Tryz.ntmps96
   go_wp2_with (first|(go_at_call 50;refine HF.out.mono ?_;rintro e w' ⟨rfl,rfl⟩;clear HF))
   go_ret
   exact⟨rfl,HT,Below.refl _ _⟩
  ·have HR:Hid (zb8 t n s=(t.set (zaj t n) { e0 with stratum:=s },true)):=by unfold Hid zb8;rw[hn];simp[hse]
   rw[HR.out]
   have hset:=zb7 hown (zaj t n * 3+2) (by rw[zlo];omega) (.int .i64 (s:Int))
   rw[zps t (zaj t n) { e0 with stratum:=s } hk (by rw[hee]) (by rw[hee])] at hset
   have hneg:tb≠g:=by
    intro hgg;subst hgg
    obtain⟨_,⟨hv,_⟩|⟨g',cap',cur,hv,_,hh,_⟩⟩:=hown
    ·cases hv
    ·simp at hv;obtain⟨rfl,_⟩:=hv;unfold Box at hbx;rw[hh] at hbx;simp at hbx
   have hbx2:=hbx.set_ne hneg (zaj t n * 3+2) (.int .i64 (s:Int))
   have HFT:Hid (TA B (w.setCell ⟨g,zaj t n * 3+2,none⟩ (.int .i64 (s:Int))) tb (t.set (zaj t n) { e0 with stratum:=s })):=⟨_,hbx2,by simpa using hset⟩
   have hse':e0.stratum < s:=by omega
   rw[hee] at hd0 hd2
   clear hn hnn HR hee hset hbx2 hse h hd0
   generalize t.set (zaj t n) { e0 with stratum:=s }=t2 at *
   generalize zaj t n=k at *
   go_enter Tryz.func96,Tryz.ntmps96
   go_wp2_with (first|(go_at_call 50;refine HF.out.mono ?_;rintro e w' ⟨rfl,rfl⟩;clear HF))
   go_ret
   exact⟨rfl,HFT,(Below.refl _ _).setCell hBg _⟩
end Go.Proofs.YteampbddflhngabGreat
namespace Go.Proofs.YteampbddflhngabGreat
set_option maxRecDepth 100000
set_option maxHeartbeats 1000000
open Go.RowKit
variable {lo:Nat}
def zt5(t:List zav)(l:zbv):Nat:=match zbu t l.pred with
 |none=>0
 |some e=>if l.neg then e.stratum+1 else e.stratum
def ze4(t:List zav)(n:Nat)(l:zbv):Nat:=if n < zt5 t l then zt5 t l else n
def zfa(t:List zav)(c:zac):Nat:=c.body.foldl (ze4 t) 0
theorem z06{t:List zav}{M:Nat}(h:∀ e∈t,e.stratum<=M)(l:zbv):zt5 t l<=M+1:=by
 unfold zt5
 split
 ·omega
 ·rename_i e he
  obtain⟨hk,hee,_⟩:=zcd he
  have:=h e (by rw[← hee];exact List.getElem_mem hk)
  split <;> omega
theorem zsw{t:List zav}{M:Nat}(h:∀ e∈t,e.stratum<=M):∀(ls:List zbv) (n:Nat),n<=M+1->ls.foldl (ze4 t) n<=M+1
 |[],n,hn=>hn
 |l::ls,n,hn=>by
  refine zsw h ls _ ?_
  unfold ze4;have:=z06 h l;split <;> omega
theorem zsx(B M:Nat)(w:World)(tb:Nat)(t:List zav)(c:zac)(va vb:Value)(h:TA B w tb t)(hl:t.length<=1000)(hM:∀ e∈t,e.stratum<=M)(hM2:M<=2000000)(hs:SIn lo w va c.head.args)(hb:LIn lo w vb c.body)(hl2:c.body.length<=1000) :
  Calls Tryz.prog 95 #[.pointer (some ⟨tb,0,none⟩),.agg #[.bool c.head.neg,.string c.head.pred,va,vb]] w fun e w'=>e=.returned (.int .i64 (zfa t c))/\Below w.heap.size w w':=by
 obtain⟨ao,cap,rfl⟩:=hs.shape
 obtain⟨aob,capb,rfl⟩:=hb.shape
 have HM:Hid (∀ e∈t,e.stratum<=M):=hM
 clear hM
 go_enter Tryz.func95,Tryz.ntmps95
 go_wp2
 go_loopw [5,13] (fun n i wr=>∃ k m:Nat,k<=c.body.length/\i=.int .i64 k/\n=.int .i64 m/\m<=M+1/\Below w.heap.size w wr/\Hid (m=(c.body.take k).foldl (ze4 t) 0)) (fun _ i _=>c.body.length - (intOf i).toNat)
 case atStart=>exact⟨0,0,Nat.zero_le _,rfl,rfl,Nat.zero_le _,(by go_grown),rfl⟩
 case round =>
  obtain⟨k,m,hk,rfl,rfl,hm,hbk,H⟩:=hrel
  have hszk:=hbk.size
  by_cases hlt:k < c.body.length
  ·obtain⟨g,ao2,cap2,rfl,hg,hc0,hc1,hc2,hsk⟩:=hb.cell k hlt
   have hd0:=(hbk.cell (p:=⟨g,k * 3,none⟩) hg).trans hc0
   have hd1:=(hbk.cell (p:=⟨g,k * 3+1,none⟩) hg).trans hc1
   have hd2:=(hbk.cell (p:=⟨g,k * 3+2,none⟩) hg).trans hc2
   have hgr:g < wr.heap.size:=by omega
   have HS:Hid ((c.body.take (k+1)).foldl (ze4 t) 0=ze4 t m c.body[k]):=by rw[Hid,H.out,List.take_succ_eq_append_getElem hlt,List.foldl_append];rfl
   have hta:=h.below hbk
   clear hc0 hc1 hc2 hsk H
   generalize c.body[k]=a at *
   have hls:=z06 HM.out a
   cases hE:zbu t a.pred with
   |none =>
    have HL:Hid (zt5 t a=0):=by unfold Hid zt5;rw[hE]
    have HR:Hid ((c.body.take (k+1)).foldl (ze4 t) 0=m):=by rw[Hid,HS.out,ze4,HL.out];simp
    have HE:Hid (zbu t a.pred=none):=hE
    clear HS HL hE hls
    go_wp2_with (first|(go_at_call 56;refine(zv3 B _ tb t a.pred (by exact hta.below (by go_grown)) hl HE).mono ?_;rintro e w1 ⟨rfl,rfl⟩))
    go_roundw
    case rel=>exact⟨k+1,m,by omega,by go_num,rfl,hm,(by go_grown),HR.out.symm⟩
    case measure=>simp[intOf];omega
   |some e0 =>
    have HE:Hid (zbu t a.pred=some e0):=hE
    cases hN:a.neg with
    |true =>
     have hL:zt5 t a=e0.stratum+1:=by unfold zt5;rw[hE,hN];rfl
     have HL:Hid (ze4 t m a=if m < e0.stratum+1 then e0.stratum+1 else m):=by unfold Hid ze4;rw[hL]
     rw[hN] at hd0
     rw[hL] at hls
     clear hL hE hN
     by_cases hlt2:m < e0.stratum+1
     all_goals
      go_wp2_with (first|(go_at_call 56;refine(zl7 B _ tb t a.pred e0 (by exact hta.below (by go_grown)) hl HE).mono ?_;rintro e w1 ⟨rfl,rfl⟩))
      go_roundw
      case rel=>first|exact⟨k+1,e0.stratum+1,by omega,by go_num,by go_num,by omega,(by go_grown),by rw[Hid,HS.out,HL.out,if_pos hlt2]⟩|exact⟨k+1,m,by omega,by go_num,rfl,hm,(by go_grown),by rw[Hid,HS.out,HL.out,if_neg hlt2]⟩
      case measure=>simp[intOf];omega
    |false =>
     have hL:zt5 t a=e0.stratum:=by unfold zt5;rw[hE,hN];rfl
     have HL:Hid (ze4 t m a=if m < e0.stratum then e0.stratum else m):=by unfold Hid ze4;rw[hL]
     rw[hN] at hd0
     rw[hL] at hls
     clear hL hE hN
     by_cases hlt2:m < e0.stratum
     all_goals
      go_wp2_with (first|(go_at_call 56;refine(zl7 B _ tb t a.pred e0 (by exact hta.below (by go_grown)) hl HE).mono ?_;rintro e w1 ⟨rfl,rfl⟩))
      go_roundw
      case rel=>first|exact⟨k+1,e0.stratum,by omega,by go_num,by go_num,by omega,(by go_grown),by rw[Hid,HS.out,HL.out,if_pos hlt2]⟩|exact⟨k+1,m,by omega,by go_num,rfl,hm,(by go_grown),by rw[Hid,HS.out,HL.out,if_neg hlt2]⟩
      case measure=>simp[intOf];omega
  ·have HR:Hid (m=zfa t c):=by rw[Hid,H.out,List.take_of_length_le (by omega)];rfl
   clear H
   go_wp2
   go_ret
   exact⟨by rw[← HR.out];rfl,hbk⟩
def zel(x:List zav × Bool)(c:zac):List zav × Bool:=((zb8 x.1 c.head.pred (zfa x.1 c)).1,x.2 || (zb8 x.1 c.head.pred (zfa x.1 c)).2)
def zbz(t:List zav)(cs:List zac):List zav × Bool:=cs.foldl zel (t,false)
theorem z1w{t:List zav}{n:ByteArray}{s M:Nat}(h:∀ e∈t,e.stratum<=M)(hs:s<=M):∀ e∈(zb8 t n s).1,e.stratum<=M:=by
 unfold zb8
 split
 ·exact h
 ·split
  ·exact h
  ·intro e he
   rcases List.mem_or_eq_of_mem_set he with he|he
   ·exact h e he
   ·subst he;exact hs
theorem znb{α β:Type}(f:β->α->β)(b:β)(l:List α)(k:Nat)(hk:k < l.length):(l.take (k+1)).foldl f b=f ((l.take k).foldl f b) l[k]:=by rw[List.take_succ_eq_append_getElem hk,List.foldl_append];rfl
theorem zop(B M:Nat)(w:World)(tb:Nat)(t:List zav)(v:Value)(cs:List zac)(w0:World)(hw0:w0.heap.size=B)(hb0:Below B w0 w)(hcs:CIn lo 90 w0 v cs)(hok:∀ c∈cs,zoe c)(_:cs.length<=1000)
  (h:TA B w tb t) (hl:t.length<=1000) (hM:∀ e∈t,e.stratum<=M) (hM2:M+cs.length<=1900000) :
  Calls Tryz.prog 65 #[.pointer (some ⟨tb,0,none⟩),v] w fun e w'=>e=.returned (.bool (zbz t cs).2)/\TA B w' tb (zbz t cs).1/\Below B w w'/\(zbz t cs).1.length=t.length/\(∀ e∈(zbz t cs).1,e.stratum<=M+cs.length):=by
 obtain⟨ao,cap,rfl⟩:=hcs.shape
 have HOK:Hid (∀ c∈cs,zoe c):=hok
 have hsz0:=hb0.size
 clear hok
 go_enter Tryz.func65,Tryz.ntmps65
 go_wp2
 go_loopw [5,11] (fun r i wr=>∃ k:Nat,k<=cs.length/\i=.int .i64 k/\r=.bool ((cs.take k).foldl zel (t,false)).2/\Below B w wr/\TA B wr tb ((cs.take k).foldl zel (t,false)).1/\((cs.take k).foldl zel (t,false)).1.length=t.length/\Hid (∀ e∈((cs.take k).foldl zel (t,false)).1,e.stratum<=M+k)) (fun _ i _=>cs.length - (intOf i).toNat)
 case atStart=>exact⟨0,Nat.zero_le _,rfl,rfl,Below.refl _ _,h,rfl,hM⟩
 case round =>
  obtain⟨k,hk,rfl,rfl,hbk',htk,hlk,HM⟩:=hrel
  have hbk:Below w0.heap.size w0 wr:=by rw[hw0];exact hb0.trans hbk'
  have hszk:=hbk'.size
  by_cases hlt:k < cs.length
  ·have hsn:=znb zel (t,false) cs k hlt
   obtain⟨g,ao2,cap2,ao3,cap3,rfl,hg,hc0,hc1,hc2,hc3,hsk,hllk⟩:=hcs.cell k hlt
   have hd0:=(hbk.cell (p:=⟨g,k * 4,none⟩) (by omega)).trans hc0
   have hd1:=(hbk.cell (p:=⟨g,k * 4+1,none⟩) (by omega)).trans hc1
   have hd2:=(hbk.cell (p:=⟨g,k * 4+2,none⟩) (by omega)).trans hc2
   have hd3:=(hbk.cell (p:=⟨g,k * 4+3,none⟩) (by omega)).trans hc3
   have hgr:g < wr.heap.size:=by omega
   have hskr:=hsk.below hbk
   have hlkr:=hllk.below hbk
   obtain⟨hk1,hk2⟩:=HOK.out _ (List.getElem_mem hlt)
   clear hc0 hc1 hc2 hc3 hsk hllk
   generalize cs[k]=a at *
   generalize (cs.take k).foldl zel (t,false)=x at *
   obtain⟨tk,rk⟩:=x
   simp only at htk hlk HM ⊢
   have HS:Hid ((cs.take (k+1)).foldl zel (t,false)=zel (tk,rk) a):=hsn
   clear hsn
   have hll:zfa tk a<=M+k+1:=zsw HM.out a.body 0 (by omega)
   have hrl:=zyv tk a.head.pred (zfa tk a)
   have HB:Hid (∀ e∈(zb8 tk a.head.pred (zfa tk a)).1,e.stratum<=M+(k+1)):=z1w (fun e he=>by have:=HM.out e he;omega) (by omega)
   cases hR:(zb8 tk a.head.pred (zfa tk a)).2 with
   |true =>
    have H1:Hid (((cs.take (k+1)).foldl zel (t,false))=((zb8 tk a.head.pred (zfa tk a)).1,true)):=by rw[Hid,HS.out,zel];simp[hR]
    clear HS
    go_wp2_with (first|(go_at_call 95;refine(zsx B (M+k) _ tb tk a _ _ (by exact htk.below (by go_grown)) (by omega) HM.out (by omega) (by exact hskr.below (by go_grown)) (by exact hlkr.below (by go_grown)) hk2).mono ?_;rintro e w1 ⟨rfl,hb1⟩;have hB1:=zae ((Below.refl wr.heap.size wr).alloc (Nat.le_refl _) _) hb1 (Nat.le_refl _);have ht1:=htk.below hB1;have hz1:=hB1.size;have hbx1:=(Box.new wr _ _).below hb1;obtain⟨hxc,hxf⟩:=hbx1.rules)|(go_at_call 96;refine(raise_any B _ tb tk a.head.pred (zfa tk a) ht1 (by omega) (by omega)).mono ?_;rintro e w2 ⟨rfl,ht2,hb2⟩))
    go_roundw
    case rel=>exact⟨k+1,by omega,by go_num,by rw[H1.out],(hbk'.trans (hB1.mono (by omega))).trans hb2,by rw[H1.out];exact ht2,by rw[H1.out];simp only;omega,by rw[H1.out];exact HB⟩
    case measure=>simp[intOf];omega
   |false =>
    have H1:Hid (((cs.take (k+1)).foldl zel (t,false))=((zb8 tk a.head.pred (zfa tk a)).1,rk)):=by rw[Hid,HS.out,zel];simp[hR]
    clear HS
    go_wp2_with (first|(go_at_call 95;refine(zsx B (M+k) _ tb tk a _ _ (by exact htk.below (by go_grown)) (by omega) HM.out (by omega) (by exact hskr.below (by go_grown)) (by exact hlkr.below (by go_grown)) hk2).mono ?_;rintro e w1 ⟨rfl,hb1⟩;have hB1:=zae ((Below.refl wr.heap.size wr).alloc (Nat.le_refl _) _) hb1 (Nat.le_refl _);have ht1:=htk.below hB1;have hz1:=hB1.size;have hbx1:=(Box.new wr _ _).below hb1;obtain⟨hxc,hxf⟩:=hbx1.rules)|(go_at_call 96;refine(raise_any B _ tb tk a.head.pred (zfa tk a) ht1 (by omega) (by omega)).mono ?_;rintro e w2 ⟨rfl,ht2,hb2⟩))
    go_roundw
    case rel=>exact⟨k+1,by omega,by go_num,by rw[H1.out],(hbk'.trans (hB1.mono (by omega))).trans hb2,by rw[H1.out];exact ht2,by rw[H1.out];simp only;omega,by rw[H1.out];exact HB⟩
    case measure=>simp[intOf];omega
  ·have hE:cs.take k=cs:=List.take_of_length_le (by omega)
   rw[hE] at htk hlk HM ⊢
   have hkl:k=cs.length:=by omega
   have HM2:Hid (∀ e∈(zbz t cs).1,e.stratum<=M+cs.length):=by rw[← hkl];exact HM
   clear hE HM
   go_wp2
   go_ret
   exact⟨rfl,htk,hbk',hlk,HM2⟩
def zcv:Nat->List zav->List zac->List zav × Bool
 |0,t,_=>(t,false)
 |m+1,t,cs=>if (zbz t cs).2 then zcv m (zbz t cs).1 cs else((zbz t cs).1,true)
theorem zl6(B:Nat)(w:World)(tb:Nat)(t:List zav)(v:Value)(cs:List zac)(w0:World)(hw0:w0.heap.size=B)(hb0:Below B w0 w)(hcs:CIn lo 90 w0 v cs)(hok:∀ c∈cs,zoe c)(hl0:cs.length<=1000)
  (h:TA B w tb t) (hl:t.length<=1000) (hM:∀ e∈t,e.stratum<=0) :
  Calls Tryz.prog 42 #[.pointer (some ⟨tb,0,none⟩),v] w fun e w'=>e=.returned (.bool (zcv (t.length+1) t cs).2)/\TA B w' tb (zcv (t.length+1) t cs).1/\Below B w w':=by
 have HOK:Hid (∀ c∈cs,zoe c):=hok
 have HW:Hid (w0.heap.size=B):=hw0
 clear hok hw0
 go_enter Tryz.func42,Tryz.ntmps42
 go_wp2
 go_loopw [5] (fun i wr=>∃(p:Nat) (tk:List zav),p<=t.length+1/\i=.int .i64 p/\Below B w wr/\TA B wr tb tk/\tk.length=t.length/\Hid (∀ e∈tk,e.stratum<=p * cs.length)/\Hid (zcv (t.length+1) t cs=zcv (t.length+1 - p) tk cs)) (fun i _=>t.length+1 - (intOf i).toNat)
 case atStart=>exact⟨0,t,Nat.zero_le _,rfl,Below.refl _ _,h,rfl,(by simpa [Hid] using hM),rfl⟩
 case round =>
  obtain⟨p,tk,hp,rfl,hbk,htk,hlk,HM,H⟩:=hrel
  obtain⟨ao,cap,hbx,hown⟩:=htk.view
  obtain⟨hc,hf⟩:=hbx.rules
  rw[hlk] at hc hbx hown
  by_cases hlt:p<=t.length
  ·have hmul:p * cs.length<=1000 * 1000:=Nat.mul_le_mul (by omega) hl0
   have hra:=zop B (p * cs.length) wr tb tk v cs w0 HW.out (hb0.trans hbk) hcs HOK.out hl0 htk (by omega) HM.out (by omega)
   have HRA:Hid (Calls Tryz.prog 65 #[.pointer (some ⟨tb,0,none⟩),v] wr fun e w'=>e=.returned (.bool (zbz tk cs).2)/\TA B w' tb (zbz tk cs).1/\Below B wr w'/\(zbz tk cs).1.length=tk.length/\(∀ e∈(zbz tk cs).1,e.stratum<=p * cs.length+cs.length)):=hra
   have hs1:t.length+1 - p=(t.length - p)+1:=by omega
   have HE:Hid (zcv (t.length+1) t cs=if (zbz tk cs).2 then zcv (t.length - p) (zbz tk cs).1 cs else((zbz tk cs).1,true)):=by rw[Hid,H.out,hs1];rfl
   clear hra hs1 H
   have hpp:p * cs.length+cs.length=(p+1) * cs.length:=by rw[Nat.add_mul];omega
   have HPP:Hid (p * cs.length+cs.length=(p+1) * cs.length):=hpp
   clear hpp hmul HM
   cases hR:(zbz tk cs).2 with
   |true =>
    have H2:Hid (zcv (t.length+1) t cs=zcv (t.length+1 - (p+1)) (zbz tk cs).1 cs):=by rw[Hid,HE.out,hR];simp
    clear HE
    rw[hR] at HRA
    clear hR
    generalize (zbz tk cs).1=tn at *
    go_wp2_with (first|(go_at_call 65;refine HRA.out.mono ?_;rintro e w1 ⟨rfl,ht1,hb1,hl1,hm1⟩;clear HRA))
    go_roundw
    case rel=>exact⟨p+1,tn,by omega,by go_num,hbk.trans hb1,ht1,by omega,by rw[HPP.out] at hm1;exact hm1,H2⟩
    case measure=>simp[intOf];omega
   |false =>
    have H2:Hid (zcv (t.length+1) t cs=((zbz tk cs).1,true)):=by rw[Hid,HE.out,hR];simp
    clear HE
    rw[hR] at HRA
    clear hR
    generalize (zbz tk cs).1=tn at *
    go_wp2_with (first|(go_at_call 65;refine HRA.out.mono ?_;rintro e w1 ⟨rfl,ht1,hb1,hl1,hm1⟩;clear HRA))
    go_ret
    exact⟨by rw[H2.out];rfl,by rw[H2.out];exact ht1,hbk.trans hb1⟩
  ·have H2:Hid (zcv (t.length+1) t cs=(tk,false)):=by rw[Hid,H.out,show t.length+1 - p=0 by omega];rfl
   clear H
   go_wp2
   go_ret
   exact⟨by rw[H2.out];rfl,by rw[H2.out];exact htk,hbk⟩
end Go.Proofs.YteampbddflhngabGreat
