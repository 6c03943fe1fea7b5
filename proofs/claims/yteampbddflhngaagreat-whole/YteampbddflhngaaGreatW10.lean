import Derived.Test.YteampbddflhngaaGreatW09

namespace Go.Proofs.YteampbddflhngaaGreat
set_option maxRecDepth 100000
set_option maxHeartbeats 2000000
open Go.RowKit
variable {lo:Nat}
theorem Tryz.row0(x y z:Value)(w:World):(Instr.index 165 (.agg #[x,y,z]) (.int .i64 0)).run Tryz.prog w=.ok x w:=by kernel_rfl
theorem Tryz.row1(x y z:Value)(w:World):(Instr.index 165 (.agg #[x,y,z]) (.int .i64 1)).run Tryz.prog w=.ok y w:=by kernel_rfl
theorem Tryz.row2(x y z:Value)(w:World):(Instr.index 165 (.agg #[x,y,z]) (.int .i64 2)).run Tryz.prog w=.ok z w:=by kernel_rfl
theorem Wrote.trans{w w1 w2:World}{tb:Nat}{T1 T2:zad}{fp fp1 fp2:List Nat}(h:Wrote lo w w1 tb T1 fp fp1)(k:Wrote lo w1 w2 tb T2 fp1 fp2):Wrote lo w w2 tb T2 fp fp2 :=
 ⟨k.trie,h.save.newer k.save h.qo,fun b hb=>(k.qo b hb).elim (h.qo b) fun q=>Or.inr (uap h.save.size q)⟩
theorem Wrote.refl{w:World}{tb:Nat}{T:zad}{fp:List Nat}(h:zat lo w tb T fp):Wrote lo w w tb T fp fp:=⟨h,zas.refl _ _,fun _ hb=>Or.inl hb⟩
theorem Wrote.below{w w1:World}{tb:Nat}{T:zad}{fp:List Nat}(h:zat lo w tb T fp)(hb:Below w.heap.size w w1):Wrote lo w w1 tb T fp fp:=⟨h.below hb,zas.of hb,fun _ hb=>Or.inl hb⟩
theorem zqs(T:zad)(a v d:Nat):(ze6 T a v d).ql.length=T.ql.length/\(ze6 T a v d).count=T.count/\(ze6 T a v d).qp=T.qp/\(ze6 T a v d).qg=T.qg:=by
 unfold ze6;split <;> simp
theorem zkv(T:zad)(a v:Nat):(zcq T a v).1.ql.length<=T.ql.length+1/\(zcq T a v).1.count=T.count/\(zcq T a v).1.qp=T.qp/\(zcq T a v).1.qg=T.qg:=by
 unfold zcq
 split
 ·simp
 ·obtain⟨h1,h2,h3,h4⟩:=zqs (zb8 T) a v T.ql.length
  simp only[h1,h2,h3,h4]
  simp[zb8]
theorem zpw(w:World)(tb:Nat)(T:zad)(fp:List Nat)(a v:Nat)(h:zat lo w tb T fp)(hm:T.ql.length < 100000000) :
  Calls Tryz.prog 191 #[.pointer (some ⟨tb,0,none⟩),.int .i64 a,.int .i64 v] w fun e w'=>e=.returned (.int .i64 ((zcq T a v).2:Nat))/\∃ fp',Wrote lo w w' tb (zcq T a v).1 fp fp':=by
 have HD:Hid (Calls Tryz.prog 130 #[.pointer (some ⟨tb,0,none⟩),.int .i64 a,.int .i64 v] w fun e w'=>e=.returned (zpc (zax T a v))/\w'=w):=zh2 w tb T fp a v h
 cases hd:zax T a v with
 |some b =>
  have HE:Hid (zcq T a v=(T,b)):=by unfold zcq;rw[Hid,hd]
  rw[hd] at HD
  simp only[zpc,uas,ua4] at HD
  clear hd
  have HT:Hid (zat lo w tb T fp):=h
  clear h
  go_enter Tryz.func191,Tryz.ntmps191
  go_wp2_with (first|(go_at_call 130;refine HD.out.mono ?_;rintro e w' ⟨rfl,hww⟩;obtain rfl:=hww.symm))
  go_ret
  exact⟨by rw[HE.out];rfl,fp,by rw[HE.out];exact Wrote.refl HT.out⟩
 |none =>
  have HE:Hid (zcq T a v=(ze6 (zb8 T) a v T.ql.length,T.ql.length)):=by unfold zcq;rw[Hid,hd]
  rw[hd] at HD
  simp only[zpc,ubh,ua9] at HD
  clear hd
  have HG:Hid (Calls Tryz.prog 162 #[.pointer (some ⟨tb,0,none⟩)] w fun e w'=>e=.returned (.int .i64 (T.ql.length:Nat))/\∃ fp',Wrote lo w w' tb (zb8 T) fp fp'):=zxr w tb T fp h hm
  clear h
  go_enter Tryz.func191,Tryz.ntmps191
  go_wp2_with (first|(go_at_call 130;refine HD.out.mono ?_;rintro e w' ⟨rfl,hww⟩;obtain rfl:=hww.symm)|(go_at_call 162;refine HG.out.mono ?_;rintro e w1 ⟨rfl,fp1,hw1⟩;have HW1:Hid (Wrote lo w w1 tb (zb8 T) fp fp1):=hw1;clear hw1)|(go_at_call 203;refine(put_any w1 tb (zb8 T) fp1 a v T.ql.length HW1.out.trie).mono ?_;rintro e w2 ⟨rfl,hw2⟩;have HW2:Hid (Wrote lo w1 w2 tb (ze6 (zb8 T) a v T.ql.length) fp1 fp1):=hw2;clear hw2))
  go_ret
  exact⟨by rw[HE.out];rfl,fp1,by rw[HE.out];exact HW1.out.trans HW2.out⟩
theorem zdk.setCount{w:World}{tb:Nat}{T:zad}{nv:Value}{ns:List (Nat × Nat)}(h:zdk lo w tb T nv ns)(n:Nat)(hn:n<=1000000000):Wrote lo w (w.setCell ⟨tb,3,none⟩ (.int .i64 (n:Nat))) tb { T with count:=n } (fpT tb nv ns) (fpT tb nv ns):=by
 have hset:=zas.set w tb 3 (.int .i64 (n:Nat))
 have nt:∀ {b1:Nat} {e:TypeId} {s1:Nat} {v:Value} {n1:Nat} {xs:List Value},w.ownsRow b1 e s1 v n1 xs->e≠229->∀ b,v.ownBlock=some b->b∉[tb]:=fun ho hT b hvb hm=>zbr ho h.box hT hvb (by simpa using hm)
 refine⟨⟨nv,ns,⟨h.low,?_,zbl h.ql hset (nt h.ql (by decide)),h.len,fun i hi hi2=>zbl (h.leap i hi hi2) hset (nt (h.leap i hi hi2) (by decide)),fun i hi hi2=>zbl (h.down i hi hi2) hset (nt (h.down i hi hi2) (by decide)),h.apart,h.wide,h.many,h.deep,hn⟩,rfl⟩,hset.more (by simp[fpT]),fun b hb=>Or.inl hb⟩
 have hq:=h.box.set 3 (.int .i64 (n:Nat));simpa using hq
theorem zvx(w:World)(tb:Nat)(T:zad)(fp:List Nat)(a v m:Nat)(h:zat lo w tb T fp)(hc:T.count < 1000000000) :
  Calls Tryz.prog 190 #[.pointer (some ⟨tb,0,none⟩),.int .i64 a,.int .i64 v,.int .i64 m] w fun e w'=>e=.returned (.bool (zp3 T a v m).2)/\∃ fp',Wrote lo w w' tb (zp3 T a v m).1 fp fp':=by
 have HD:Hid (Calls Tryz.prog 130 #[.pointer (some ⟨tb,0,none⟩),.int .i64 a,.int .i64 v] w fun e w'=>e=.returned (zpc (zax T a v))/\w'=w):=zh2 w tb T fp a v h
 cases hd:zax T a v with
 |some b =>
  have HE:Hid (zp3 T a v m=(T,false)):=by unfold zp3;rw[Hid,hd]
  rw[hd] at HD
  simp only[zpc,uas,ua4] at HD
  clear hd
  have HT:Hid (zat lo w tb T fp):=h
  clear h
  go_enter Tryz.func190,Tryz.ntmps190
  go_wp2_with (first|(go_at_call 130;refine HD.out.mono ?_;rintro e w' ⟨rfl,hww⟩;obtain rfl:=hww.symm))
  go_ret
  exact⟨by rw[HE.out];rfl,fp,by rw[HE.out];exact Wrote.refl HT.out⟩
 |none =>
  have HE:Hid (zp3 T a v m=({ ze6 T a v m with count:=(ze6 T a v m).count+1 },true)):=by unfold zp3;rw[Hid,hd]
  rw[hd] at HD
  simp only[zpc,ubh,ua9] at HD
  clear hd
  have HP:Hid (Calls Tryz.prog 203 #[.pointer (some ⟨tb,0,none⟩),.int .i64 a,.int .i64 v,.int .i64 m] w fun e w'=>e=.returned (.tuple #[])/\Wrote lo w w' tb (ze6 T a v m) fp fp):=put_any w tb T fp a v m h
  have hcc:=(zqs T a v m).2.1
  generalize ze6 T a v m=T1 at *
  rw[← hcc] at hc
  clear h hcc
  go_enter Tryz.func190,Tryz.ntmps190
  go_wp2_with (first|(go_at_call 130;refine HD.out.mono ?_;rintro e w' ⟨rfl,hww⟩;obtain rfl:=hww.symm)|(go_at_call 203;refine HP.out.mono ?_;rintro e w1 ⟨rfl,hw1⟩;obtain⟨nv,ns,ht1,hfp⟩:=hw1.trie;have HW1:Hid (Wrote lo w w1 tb T1 fp fp):=hw1;have HS:Hid (Wrote lo w1 (w1.setCell ⟨tb,3,none⟩ (.int .i64 ((T1.count+1:Nat)))) tb { T1 with count:=T1.count+1 } fp fp):=(by rw[hfp];exact ht1.setCount (T1.count+1) (by omega));have hbx:=ht1.box;clear hw1 ht1;obtain⟨hbc,hbf⟩:=hbx.rules;have hbl:=hbx.lt))
  go_ret
  exact⟨by rw[HE.out];rfl,fp,by rw[HE.out];exact HW1.out.trans HS.out⟩
theorem fits_any(w:World)(tb:Nat)(T:zad)(fp:List Nat)(x y z:Nat)(h:zat lo w tb T fp) :
  Calls Tryz.prog 189 #[.pointer (some ⟨tb,0,none⟩),.agg #[.int .i64 x,.int .i64 y,.int .i64 z]] w fun e w'=>e=.returned (.bool (zn5 T [x,y,z]))/\Below w.heap.size w w':=by
 obtain⟨nv,ns,h1,rfl⟩:=h
 have hwd:=h1.wide
 have hbx:=h1.box
 clear h1
 have hi0:=Tryz.row0 (.int .i64 x) (.int .i64 y) (.int .i64 z)
 have hi1:=Tryz.row1 (.int .i64 x) (.int .i64 y) (.int .i64 z)
 have hi2:=Tryz.row2 (.int .i64 x) (.int .i64 y) (.int .i64 z)
 have HF:Hid (zn5 T [x,y,z]=(decide (x < T.qg) && (decide (y < T.qg) && decide (z < T.qg)))):=by simp[Hid,zn5]
 go_enter Tryz.func189,Tryz.ntmps189
 go_wp2
 go_loopw [8] (fun v8 wr=>∃ k:Nat,k<=3/\v8=.int .i64 k/\(1<=k->x < T.qg)/\(2<=k->y < T.qg)/\(3<=k->z < T.qg)/\Below w.heap.size w wr) (fun i _=>3 - (intOf i).toNat)
 case atStart=>exact⟨0,by omega,rfl,by omega,by omega,by omega,(by go_grown)⟩
 case round =>
  obtain⟨k,hk,rfl,h1,h2,h3,hbk⟩:=hrel
  have hbxk:=hbx.below hbk
  obtain⟨hc,hfz⟩:=hbxk.rules
  have hlt:=hbxk.lt
  match k,hk with
  |0,_ =>
   by_cases hx:x < T.qg
   ·go_wp2
    go_roundw
    case rel=>exact⟨1,by omega,rfl,fun _=>hx,by omega,by omega,hbk⟩
    case measure=>simp[intOf]
   ·go_wp2
    go_ret
    exact⟨by rw[HF.out];simp[hx],hbk⟩
  |1,_ =>
   have hx:=h1 (by omega)
   by_cases hy:y < T.qg
   ·go_wp2
    go_roundw
    case rel=>exact⟨2,by omega,rfl,fun _=>hx,fun _=>hy,by omega,hbk⟩
    case measure=>simp[intOf]
   ·go_wp2
    go_ret
    exact⟨by rw[HF.out];simp[hy],hbk⟩
  |2,_ =>
   have hx:=h1 (by omega)
   have hy:=h2 (by omega)
   by_cases hz:z < T.qg
   ·go_wp2
    go_roundw
    case rel=>exact⟨3,by omega,rfl,fun _=>hx,fun _=>hy,fun _=>hz,hbk⟩
    case measure=>simp[intOf]
   ·go_wp2
    go_ret
    exact⟨by rw[HF.out];simp[hz],hbk⟩
  |3,_ =>
   have hx:=h1 (by omega)
   have hy:=h2 (by omega)
   have hz:=h3 (by omega)
   go_wp2
   go_ret
   exact⟨by rw[HF.out];simp[hx,hy,hz],hbk⟩
set_option maxHeartbeats 4000000
theorem z7b(w:World)(tb:Nat)(T:zad)(fp:List Nat)(x y z m:Nat)(h:zat lo w tb T fp)(hn:T.ql.length<=90000000)(hc:T.count < 1000000000) :
  Calls Tryz.prog 163 #[.pointer (some ⟨tb,0,none⟩),.agg #[.int .i64 x,.int .i64 y,.int .i64 z],.int .i64 m] w fun e w'=>e=.returned (.bool (zfo T [x,y,z] m).2)/\∃ fp',Wrote lo w w' tb (zfo T [x,y,z] m).1 fp fp':=by
 have hi0:=Tryz.row0 (.int .i64 x) (.int .i64 y) (.int .i64 z)
 have hi1:=Tryz.row1 (.int .i64 x) (.int .i64 y) (.int .i64 z)
 have hi2:=Tryz.row2 (.int .i64 x) (.int .i64 y) (.int .i64 z)
 have hdp:T.qp<=3:=by obtain⟨nv,ns,h1,_⟩:=h;exact h1.deep
 have HF:Hid (∀ W,Below w.heap.size w W->Calls Tryz.prog 189 #[.pointer (some ⟨tb,0,none⟩),.agg #[.int .i64 x,.int .i64 y,.int .i64 z]] W fun e w'=>e=.returned (.bool (zn5 T [x,y,z]))/\Below W.heap.size W w'):=fun W hW=>fits_any W tb T fp x y z (h.below hW)
 have HT:Hid (zat lo w tb T fp):=h
 clear h
 cases hf:zn5 T [x,y,z] with
 |false =>
  have HA:Hid (zfo T [x,y,z] m=(T,false)):=by simp[Hid,zfo,hf]
  rw[hf] at HF
  clear hf
  go_enter Tryz.func163,Tryz.ntmps163
  go_wp2_with (first|(go_at_call 189;refine(HF.out _ (by exact(by go_grown))).mono ?_;rintro e w1 ⟨rfl,hb1⟩;have hB1:Below w.heap.size w w1:=zae (by go_grown) hb1 (uaa _)))
  go_ret
  exact⟨by rw[HA.out];rfl,fp,by rw[HA.out];exact Wrote.below HT.out hB1⟩
 |true =>
  have HA:Hid (zfo T [x,y,z] m=zc7 m T 0 0 [x,y,z]):=by simp[Hid,zfo,hf]
  rw[hf] at HF
  clear hf
  go_enter Tryz.func163,Tryz.ntmps163
  go_wp2_with (first|(go_at_call 189;refine(HF.out _ (by exact(by go_grown))).mono ?_;rintro e w1 ⟨rfl,hb1⟩;have hB1:Below w.heap.size w w1:=zae (by go_grown) hb1 (uaa _);have hrb:=(Box.new w #[.int .i64 x,.int .i64 y,.int .i64 z] 165).below hb1;obtain⟨hrc,hrf⟩:=hrb.rules;have hrl:=hrb.lt))
  clear hrc hrf hrl hrb hb1 HF
  go_loopw [7,15] (fun v7 v15 wr=>∃(k a:Nat) (Tk:zad) (fpk:List Nat),k<=3/\v15=.int .i64 k/\v7=.int .i64 a/\Hid (Wrote lo w wr tb Tk fp fpk)/\Hid (zc7 m T 0 0 [x,y,z]=zc7 m Tk a k ([x,y,z].drop k))/\Tk.ql.length<=T.ql.length+k/\Tk.count=T.count/\Tk.qp=T.qp) (fun _ v15 _=>3 - (intOf v15).toNat)
  case atStart=>exact⟨0,0,T,fp,by omega,rfl,rfl,Wrote.below HT.out hB1,rfl,by omega,rfl,rfl⟩
  case round =>
   obtain⟨k,a,Tk,fpk,hk,rfl,rfl,HW,HQ,hq1,hq2,hq3⟩:=hrel
   have hbx:∃ nv,Box wr tb #[.int .i64 (Tk.qg:Nat),.int .i64 (Tk.qp:Nat),nv,.int .i64 (Tk.count:Nat)] 229:=by obtain⟨nv,ns,h1,_⟩:=HW.out.trie;exact⟨nv,h1.box⟩
   obtain⟨nv,hbx⟩:=hbx
   rw[hq3] at hbx
   obtain⟨hbc,hbf⟩:=hbx.rules
   have hbl:=hbx.lt
   match k,hk with
   |0,_ =>
    by_cases hd:T.qp<=1
    ·have HE:Hid (zc7 m Tk a 0 [x,y,z]=zp3 Tk a x m):=by rw[Hid];simp only[zc7];rw[if_pos (by omega)]
     have HN:Hid (Calls Tryz.prog 190 #[.pointer (some ⟨tb,0,none⟩),.int .i64 a,.int .i64 x,.int .i64 m] wr fun e w'=>e=.returned (.bool (zp3 Tk a x m).2)/\∃ fp',Wrote lo wr w' tb (zp3 Tk a x m).1 fpk fp'):=zvx wr tb Tk fpk a x m HW.out.trie (by omega)
     go_wp2_with (first|(go_at_call 190;refine HN.out.mono ?_;rintro e w2 ⟨rfl,fp2,hw2⟩;have HW2:Hid (Wrote lo wr w2 tb (zp3 Tk a x m).1 fpk fp2):=hw2;clear hw2))
     go_ret
     exact⟨by rw[HA.out,HQ.out];simp only[List.drop];rw[HE.out];rfl,fp2,by rw[HA.out,HQ.out];simp only[List.drop];rw[HE.out];exact HW.out.trans HW2.out⟩
    ·have HE:Hid (zc7 m Tk a 0 [x,y,z]=zc7 m (zcq Tk a x).1 (zcq Tk a x).2 1 [y,z]):=by rw[Hid];simp only[zc7];rw[if_neg (by omega)]
     obtain⟨q1,q2,q3,q4⟩:=zkv Tk a x
     have HN:Hid (Calls Tryz.prog 191 #[.pointer (some ⟨tb,0,none⟩),.int .i64 a,.int .i64 x] wr fun e w'=>e=.returned (.int .i64 ((zcq Tk a x).2:Nat))/\∃ fp',Wrote lo wr w' tb (zcq Tk a x).1 fpk fp'):=zpw wr tb Tk fpk a x HW.out.trie (by omega)
     generalize zcq Tk a x=TB at *
     go_wp2_with (first|(go_at_call 191;refine HN.out.mono ?_;rintro e w2 ⟨rfl,fp2,hw2⟩;have HW2:Hid (Wrote lo wr w2 tb TB.1 fpk fp2):=hw2;clear hw2))
     go_roundw
     case rel=>exact⟨1,TB.2,TB.1,fp2,by omega,rfl,rfl,HW.out.trans HW2.out,(by rw[HQ.out];exact HE.out),by omega,by omega,by omega⟩
     case measure=>simp[intOf]
   |1,_ =>
    by_cases hd:T.qp<=2
    ·have HE:Hid (zc7 m Tk a 1 [y,z]=zp3 Tk a y m):=by rw[Hid];simp only[zc7];rw[if_pos (by omega)]
     have HN:Hid (Calls Tryz.prog 190 #[.pointer (some ⟨tb,0,none⟩),.int .i64 a,.int .i64 y,.int .i64 m] wr fun e w'=>e=.returned (.bool (zp3 Tk a y m).2)/\∃ fp',Wrote lo wr w' tb (zp3 Tk a y m).1 fpk fp'):=zvx wr tb Tk fpk a y m HW.out.trie (by omega)
     go_wp2_with (first|(go_at_call 190;refine HN.out.mono ?_;rintro e w2 ⟨rfl,fp2,hw2⟩;have HW2:Hid (Wrote lo wr w2 tb (zp3 Tk a y m).1 fpk fp2):=hw2;clear hw2))
     go_ret
     exact⟨by rw[HA.out,HQ.out];simp only[List.drop];rw[HE.out];rfl,fp2,by rw[HA.out,HQ.out];simp only[List.drop];rw[HE.out];exact HW.out.trans HW2.out⟩
    ·have HE:Hid (zc7 m Tk a 1 [y,z]=zc7 m (zcq Tk a y).1 (zcq Tk a y).2 2 [z]):=by rw[Hid];simp only[zc7];rw[if_neg (by omega)]
     obtain⟨q1,q2,q3,q4⟩:=zkv Tk a y
     have HN:Hid (Calls Tryz.prog 191 #[.pointer (some ⟨tb,0,none⟩),.int .i64 a,.int .i64 y] wr fun e w'=>e=.returned (.int .i64 ((zcq Tk a y).2:Nat))/\∃ fp',Wrote lo wr w' tb (zcq Tk a y).1 fpk fp'):=zpw wr tb Tk fpk a y HW.out.trie (by omega)
     generalize zcq Tk a y=TB at *
     go_wp2_with (first|(go_at_call 191;refine HN.out.mono ?_;rintro e w2 ⟨rfl,fp2,hw2⟩;have HW2:Hid (Wrote lo wr w2 tb TB.1 fpk fp2):=hw2;clear hw2))
     go_roundw
     case rel=>exact⟨2,TB.2,TB.1,fp2,by omega,rfl,rfl,HW.out.trans HW2.out,(by rw[HQ.out];exact HE.out),by omega,by omega,by omega⟩
     case measure=>simp[intOf]
   |2,_ =>
    by_cases hd:T.qp<=3
    ·have HE:Hid (zc7 m Tk a 2 [z]=zp3 Tk a z m):=by rw[Hid];simp only[zc7];rw[if_pos (by omega)]
     have HN:Hid (Calls Tryz.prog 190 #[.pointer (some ⟨tb,0,none⟩),.int .i64 a,.int .i64 z,.int .i64 m] wr fun e w'=>e=.returned (.bool (zp3 Tk a z m).2)/\∃ fp',Wrote lo wr w' tb (zp3 Tk a z m).1 fpk fp'):=zvx wr tb Tk fpk a z m HW.out.trie (by omega)
     go_wp2_with (first|(go_at_call 190;refine HN.out.mono ?_;rintro e w2 ⟨rfl,fp2,hw2⟩;have HW2:Hid (Wrote lo wr w2 tb (zp3 Tk a z m).1 fpk fp2):=hw2;clear hw2))
     go_ret
     exact⟨by rw[HA.out,HQ.out];simp only[List.drop];rw[HE.out];rfl,fp2,by rw[HA.out,HQ.out];simp only[List.drop];rw[HE.out];exact HW.out.trans HW2.out⟩
    ·exact absurd hdp hd
   |3,_ =>
    have HE:Hid (zc7 m Tk a 3 []=(Tk,false)):=by rw[Hid];simp only[zc7]
    go_wp2
    go_ret
    exact⟨by rw[HA.out,HQ.out];simp only[List.drop];rw[HE.out];rfl,fpk,by rw[HA.out,HQ.out];simp only[List.drop];rw[HE.out];exact HW.out⟩
theorem zuy(w:World)(tb:Nat)(T:zad)(fp:List Nat)(x y z:Nat)(h:zat lo w tb T fp) :
  Calls Tryz.prog 83 #[.pointer (some ⟨tb,0,none⟩),.agg #[.int .i64 x,.int .i64 y,.int .i64 z]] w fun e w'=>e=.returned (zpc (zdt T [x,y,z]))/\Below w.heap.size w w':=by
 have hi0:=Tryz.row0 (.int .i64 x) (.int .i64 y) (.int .i64 z)
 have hi1:=Tryz.row1 (.int .i64 x) (.int .i64 y) (.int .i64 z)
 have hi2:=Tryz.row2 (.int .i64 x) (.int .i64 y) (.int .i64 z)
 have hbx:∃ nv,Box w tb #[.int .i64 (T.qg:Nat),.int .i64 (T.qp:Nat),nv,.int .i64 (T.count:Nat)] 229/\T.qp<=3:=by obtain⟨nv,ns,h1,_⟩:=h;exact⟨nv,h1.box,h1.deep⟩
 obtain⟨nv,hbx,hdp⟩:=hbx
 have HD:Hid (∀ W a v,Below w.heap.size w W->Calls Tryz.prog 130 #[.pointer (some ⟨tb,0,none⟩),.int .i64 ((a:Nat):Int),.int .i64 ((v:Nat):Int)] W fun e w'=>e=.returned (zpc (zax T a v))/\w'=W):=fun W a v hW=>zh2 W tb T fp a v (h.below hW)
 clear h
 have HM:Hid (zdt T [x,y,z]=zbe T 0 0 [x,y,z]):=rfl
 go_enter Tryz.func83,Tryz.ntmps83
 go_wp2
 go_loopw [6,12] (fun v6 v12 wr=>∃ k a:Nat,k<=3/\v12=.int .i64 k/\v6=.int .i64 a/\Hid (zbe T 0 0 [x,y,z]=zbe T a k ([x,y,z].drop k))/\Below w.heap.size w wr) (fun _ v12 _=>3 - (intOf v12).toNat)
 case atStart=>exact⟨0,0,by omega,rfl,rfl,rfl,(by go_grown)⟩
 case round =>
  obtain⟨k,a,hk,rfl,rfl,HQ,hbk⟩:=hrel
  have hbxk:=hbx.below hbk
  obtain⟨hbc,hbf⟩:=hbxk.rules
  have hbl:=hbxk.lt
  match k,hk with
  |0,_ =>
   cases hd:zax T a x with
   |none =>
    have HE:Hid (zbe T a 0 [x,y,z]=none):=by rw[Hid];simp only[zbe];rw[hd]
    have H1:=HD.out wr a x hbk
    rw[hd] at H1
    simp only[zpc,ubh,ua9] at H1
    have HH:Hid (Calls Tryz.prog 130 #[.pointer (some ⟨tb,0,none⟩),.int .i64 ((a:Nat):Int),.int .i64 ((x:Nat):Int)] wr fun e w'=>e=.returned (.tuple #[.int .i64 ((0:Nat):Int),.bool false])/\w'=wr):=H1
    clear H1 hd
    go_wp2_with (first|(go_at_call 130;refine HH.out.mono ?_;rintro e w' ⟨rfl,hww⟩;obtain rfl:=hww.symm))
    go_ret2
    exact⟨by rw[HM.out,HQ.out];simp only[List.drop];rw[HE.out];rfl,hbk⟩
   |some b =>
    have H1:=HD.out wr a x hbk
    rw[hd] at H1
    simp only[zpc,uas,ua4] at H1
    have HH:Hid (Calls Tryz.prog 130 #[.pointer (some ⟨tb,0,none⟩),.int .i64 ((a:Nat):Int),.int .i64 ((x:Nat):Int)] wr fun e w'=>e=.returned (.tuple #[.int .i64 ((b:Nat):Int),.bool true])/\w'=wr):=H1
    clear H1
    by_cases hdd:T.qp<=1
    ·have HE:Hid (zbe T a 0 [x,y,z]=some b):=by rw[Hid];simp only[zbe];rw[hd];simp only;rw[if_pos (by omega)]
     clear hd
     go_wp2_with (first|(go_at_call 130;refine HH.out.mono ?_;rintro e w' ⟨rfl,hww⟩;obtain rfl:=hww.symm))
     go_ret2
     exact⟨by rw[HM.out,HQ.out];simp only[List.drop];rw[HE.out];rfl,hbk⟩
    ·have HE:Hid (zbe T a 0 [x,y,z]=zbe T b 1 [y,z]):=by rw[Hid];simp only[zbe];rw[hd];simp only;rw[if_neg (by omega)]
     clear hd
     go_wp2_with (first|(go_at_call 130;refine HH.out.mono ?_;rintro e w' ⟨rfl,hww⟩;obtain rfl:=hww.symm))
     go_roundw
     case rel=>exact⟨1,b,by omega,rfl,rfl,(by rw[HQ.out];exact HE.out),hbk⟩
     case measure=>simp[intOf]
  |1,_ =>
   cases hd:zax T a y with
   |none =>
    have HE:Hid (zbe T a 1 [y,z]=none):=by rw[Hid];simp only[zbe];rw[hd]
    have H1:=HD.out wr a y hbk
    rw[hd] at H1
    simp only[zpc,ubh,ua9] at H1
    have HH:Hid (Calls Tryz.prog 130 #[.pointer (some ⟨tb,0,none⟩),.int .i64 ((a:Nat):Int),.int .i64 ((y:Nat):Int)] wr fun e w'=>e=.returned (.tuple #[.int .i64 ((0:Nat):Int),.bool false])/\w'=wr):=H1
    clear H1 hd
    go_wp2_with (first|(go_at_call 130;refine HH.out.mono ?_;rintro e w' ⟨rfl,hww⟩;obtain rfl:=hww.symm))
    go_ret2
    exact⟨by rw[HM.out,HQ.out];simp only[List.drop];rw[HE.out];rfl,hbk⟩
   |some b =>
    have H1:=HD.out wr a y hbk
    rw[hd] at H1
    simp only[zpc,uas,ua4] at H1
    have HH:Hid (Calls Tryz.prog 130 #[.pointer (some ⟨tb,0,none⟩),.int .i64 ((a:Nat):Int),.int .i64 ((y:Nat):Int)] wr fun e w'=>e=.returned (.tuple #[.int .i64 ((b:Nat):Int),.bool true])/\w'=wr):=H1
    clear H1
    by_cases hdd:T.qp<=2
    ·have HE:Hid (zbe T a 1 [y,z]=some b):=by rw[Hid];simp only[zbe];rw[hd];simp only;rw[if_pos (by omega)]
     clear hd
     go_wp2_with (first|(go_at_call 130;refine HH.out.mono ?_;rintro e w' ⟨rfl,hww⟩;obtain rfl:=hww.symm))
     go_ret2
     exact⟨by rw[HM.out,HQ.out];simp only[List.drop];rw[HE.out];rfl,hbk⟩
    ·have HE:Hid (zbe T a 1 [y,z]=zbe T b 2 [z]):=by rw[Hid];simp only[zbe];rw[hd];simp only;rw[if_neg (by omega)]
     clear hd
     go_wp2_with (first|(go_at_call 130;refine HH.out.mono ?_;rintro e w' ⟨rfl,hww⟩;obtain rfl:=hww.symm))
     go_roundw
     case rel=>exact⟨2,b,by omega,rfl,rfl,(by rw[HQ.out];exact HE.out),hbk⟩
     case measure=>simp[intOf]
  |2,_ =>
   cases hd:zax T a z with
   |none =>
    have HE:Hid (zbe T a 2 [z]=none):=by rw[Hid];simp only[zbe];rw[hd]
    have H1:=HD.out wr a z hbk
    rw[hd] at H1
    simp only[zpc,ubh,ua9] at H1
    have HH:Hid (Calls Tryz.prog 130 #[.pointer (some ⟨tb,0,none⟩),.int .i64 ((a:Nat):Int),.int .i64 ((z:Nat):Int)] wr fun e w'=>e=.returned (.tuple #[.int .i64 ((0:Nat):Int),.bool false])/\w'=wr):=H1
    clear H1 hd
    go_wp2_with (first|(go_at_call 130;refine HH.out.mono ?_;rintro e w' ⟨rfl,hww⟩;obtain rfl:=hww.symm))
    go_ret2
    exact⟨by rw[HM.out,HQ.out];simp only[List.drop];rw[HE.out];rfl,hbk⟩
   |some b =>
    have H1:=HD.out wr a z hbk
    rw[hd] at H1
    simp only[zpc,uas,ua4] at H1
    have HH:Hid (Calls Tryz.prog 130 #[.pointer (some ⟨tb,0,none⟩),.int .i64 ((a:Nat):Int),.int .i64 ((z:Nat):Int)] wr fun e w'=>e=.returned (.tuple #[.int .i64 ((b:Nat):Int),.bool true])/\w'=wr):=H1
    clear H1
    by_cases hdd:T.qp<=3
    ·have HE:Hid (zbe T a 2 [z]=some b):=by rw[Hid];simp only[zbe];rw[hd];simp only;rw[if_pos (by omega)]
     clear hd
     go_wp2_with (first|(go_at_call 130;refine HH.out.mono ?_;rintro e w' ⟨rfl,hww⟩;obtain rfl:=hww.symm))
     go_ret2
     exact⟨by rw[HM.out,HQ.out];simp only[List.drop];rw[HE.out];rfl,hbk⟩
    ·exact absurd hdp hdd
  |3,_ =>
   have HE:Hid (zbe T a 3 []=none):=by rw[Hid];simp only[zbe]
   go_wp2
   go_ret2
   exact⟨by rw[HM.out,HQ.out];simp only[List.drop];rw[HE.out];rfl,hbk⟩
end Go.Proofs.YteampbddflhngaaGreat
