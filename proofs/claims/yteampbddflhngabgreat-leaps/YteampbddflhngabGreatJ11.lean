import Derived.Test.YteampbddflhngabGreatJ10

namespace Go.Proofs.YteampbddflhngabGreat
set_option maxRecDepth 100000
set_option maxHeartbeats 4000000
open Go.RowKit
variable {lo:Nat}
theorem z5a(w:World)(tb:Nat)(T:zad)(fp:List Nat)(x y z m:Nat)(h:zar lo w tb T fp)(hn:T.nodes.length<=90000000)(hc:T.count < 1000000000) :
  Calls Tryz.prog 104 #[.pointer (some ⟨tb,0,none⟩),.agg #[.int .i64 x,.int .i64 y,.int .i64 z],.int .i64 m] w fun e w'=>e=.returned (.bool (zfh T [x,y,z] m).2)/\∃ fp',Wrote lo w w' tb (zfh T [x,y,z] m).1 fp fp':=by
 have hi0:=Tryz.row0 (.int .i64 x) (.int .i64 y) (.int .i64 z)
 have hi1:=Tryz.row1 (.int .i64 x) (.int .i64 y) (.int .i64 z)
 have hi2:=Tryz.row2 (.int .i64 x) (.int .i64 y) (.int .i64 z)
 have hdp:T.depth<=3:=by obtain⟨nv,ns,h1,_⟩:=h;exact h1.deep
 have HF:Hid (∀ W,Below w.heap.size w W->Calls Tryz.prog 122 #[.pointer (some ⟨tb,0,none⟩),.agg #[.int .i64 x,.int .i64 y,.int .i64 z]] W fun e w'=>e=.returned (.bool (zm9 T [x,y,z]))/\Below W.heap.size W w'):=fun W hW=>fits_any W tb T fp x y z (h.below hW)
 have HT:Hid (zar lo w tb T fp):=h
 clear h
 cases hf:zm9 T [x,y,z] with
 |false =>
  have HA:Hid (zfh T [x,y,z] m=(T,false)):=by simp[Hid,zfh,hf]
  rw[hf] at HF
  clear hf
  go_enter Tryz.func104,Tryz.ntmps104
  go_wp2_with (first|(go_at_call 122;refine(HF.out _ (by exact(by go_grown))).mono ?_;rintro e w1 ⟨rfl,hb1⟩;have hB1:Below w.heap.size w w1:=zae (by go_grown) hb1 (Nat.le_refl _)))
  go_ret
  exact⟨by rw[HA.out];rfl,fp,by rw[HA.out];exact Wrote.below HT.out hB1⟩
 |true =>
  have HA:Hid (zfh T [x,y,z] m=zc0 m T 0 0 [x,y,z]):=by simp[Hid,zfh,hf]
  rw[hf] at HF
  clear hf
  go_enter Tryz.func104,Tryz.ntmps104
  go_wp2_with (first|(go_at_call 122;refine(HF.out _ (by exact(by go_grown))).mono ?_;rintro e w1 ⟨rfl,hb1⟩;have hB1:Below w.heap.size w w1:=zae (by go_grown) hb1 (Nat.le_refl _);have hrb:=(Box.new w #[.int .i64 x,.int .i64 y,.int .i64 z] 116).below hb1;obtain⟨hrc,hrf⟩:=hrb.rules;have hrl:=hrb.lt))
  clear hrc hrf hrl hrb hb1 HF
  go_loopw [7,15] (fun v7 v15 wr=>∃(k a:Nat) (Tk:zad) (fpk:List Nat),k<=3/\v15=.int .i64 k/\v7=.int .i64 a/\Hid (Wrote lo w wr tb Tk fp fpk)/\Hid (zc0 m T 0 0 [x,y,z]=zc0 m Tk a k ([x,y,z].drop k))/\Tk.nodes.length<=T.nodes.length+k/\Tk.count=T.count/\Tk.depth=T.depth) (fun _ v15 _=>3 - (intOf v15).toNat)
  case atStart=>exact⟨0,0,T,fp,by omega,rfl,rfl,Wrote.below HT.out hB1,rfl,by omega,rfl,rfl⟩
  case round =>
   obtain⟨k,a,Tk,fpk,hk,rfl,rfl,HW,HQ,hq1,hq2,hq3⟩:=hrel
   have hbx:∃ nv,Box wr tb #[.int .i64 (Tk.width:Nat),.int .i64 (Tk.depth:Nat),nv,.int .i64 (Tk.count:Nat)] 168:=by obtain⟨nv,ns,h1,_⟩:=HW.out.trie;exact⟨nv,h1.box⟩
   obtain⟨nv,hbx⟩:=hbx
   rw[hq3] at hbx
   obtain⟨hbc,hbf⟩:=hbx.rules
   have hbl:=hbx.lt
   match k,hk with
   |0,_ =>
    by_cases hd:T.depth<=1
    ·have HE:Hid (zc0 m Tk a 0 [x,y,z]=zo5 Tk a x m):=by rw[Hid];simp only[zc0];rw[if_pos (by omega)]
     have HN:Hid (Calls Tryz.prog 123 #[.pointer (some ⟨tb,0,none⟩),.int .i64 a,.int .i64 x,.int .i64 m] wr fun e w'=>e=.returned (.bool (zo5 Tk a x m).2)/\∃ fp',Wrote lo wr w' tb (zo5 Tk a x m).1 fpk fp'):=zuu wr tb Tk fpk a x m HW.out.trie (by omega)
     go_wp2_with (first|(go_at_call 123;refine HN.out.mono ?_;rintro e w2 ⟨rfl,fp2,hw2⟩;have HW2:Hid (Wrote lo wr w2 tb (zo5 Tk a x m).1 fpk fp2):=hw2;clear hw2))
     go_ret
     exact⟨by rw[HA.out,HQ.out];simp only[List.drop];rw[HE.out];rfl,fp2,by rw[HA.out,HQ.out];simp only[List.drop];rw[HE.out];exact HW.out.trans HW2.out⟩
    ·have HE:Hid (zc0 m Tk a 0 [x,y,z]=zc0 m (zcm Tk a x).1 (zcm Tk a x).2 1 [y,z]):=by rw[Hid];simp only[zc0];rw[if_neg (by omega)]
     obtain⟨q1,q2,q3,q4⟩:=zkd Tk a x
     have HN:Hid (Calls Tryz.prog 124 #[.pointer (some ⟨tb,0,none⟩),.int .i64 a,.int .i64 x] wr fun e w'=>e=.returned (.int .i64 ((zcm Tk a x).2:Nat))/\∃ fp',Wrote lo wr w' tb (zcm Tk a x).1 fpk fp'):=zoy wr tb Tk fpk a x HW.out.trie (by omega)
     generalize zcm Tk a x=TB at *
     go_wp2_with (first|(go_at_call 124;refine HN.out.mono ?_;rintro e w2 ⟨rfl,fp2,hw2⟩;have HW2:Hid (Wrote lo wr w2 tb TB.1 fpk fp2):=hw2;clear hw2))
     go_roundw
     case rel=>exact⟨1,TB.2,TB.1,fp2,by omega,rfl,rfl,HW.out.trans HW2.out,(by rw[HQ.out];exact HE.out),by omega,by omega,by omega⟩
     case measure=>simp[intOf]
   |1,_ =>
    by_cases hd:T.depth<=2
    ·have HE:Hid (zc0 m Tk a 1 [y,z]=zo5 Tk a y m):=by rw[Hid];simp only[zc0];rw[if_pos (by omega)]
     have HN:Hid (Calls Tryz.prog 123 #[.pointer (some ⟨tb,0,none⟩),.int .i64 a,.int .i64 y,.int .i64 m] wr fun e w'=>e=.returned (.bool (zo5 Tk a y m).2)/\∃ fp',Wrote lo wr w' tb (zo5 Tk a y m).1 fpk fp'):=zuu wr tb Tk fpk a y m HW.out.trie (by omega)
     go_wp2_with (first|(go_at_call 123;refine HN.out.mono ?_;rintro e w2 ⟨rfl,fp2,hw2⟩;have HW2:Hid (Wrote lo wr w2 tb (zo5 Tk a y m).1 fpk fp2):=hw2;clear hw2))
     go_ret
     exact⟨by rw[HA.out,HQ.out];simp only[List.drop];rw[HE.out];rfl,fp2,by rw[HA.out,HQ.out];simp only[List.drop];rw[HE.out];exact HW.out.trans HW2.out⟩
    ·have HE:Hid (zc0 m Tk a 1 [y,z]=zc0 m (zcm Tk a y).1 (zcm Tk a y).2 2 [z]):=by rw[Hid];simp only[zc0];rw[if_neg (by omega)]
     obtain⟨q1,q2,q3,q4⟩:=zkd Tk a y
     have HN:Hid (Calls Tryz.prog 124 #[.pointer (some ⟨tb,0,none⟩),.int .i64 a,.int .i64 y] wr fun e w'=>e=.returned (.int .i64 ((zcm Tk a y).2:Nat))/\∃ fp',Wrote lo wr w' tb (zcm Tk a y).1 fpk fp'):=zoy wr tb Tk fpk a y HW.out.trie (by omega)
     generalize zcm Tk a y=TB at *
     go_wp2_with (first|(go_at_call 124;refine HN.out.mono ?_;rintro e w2 ⟨rfl,fp2,hw2⟩;have HW2:Hid (Wrote lo wr w2 tb TB.1 fpk fp2):=hw2;clear hw2))
     go_roundw
     case rel=>exact⟨2,TB.2,TB.1,fp2,by omega,rfl,rfl,HW.out.trans HW2.out,(by rw[HQ.out];exact HE.out),by omega,by omega,by omega⟩
     case measure=>simp[intOf]
   |2,_ =>
    by_cases hd:T.depth<=3
    ·have HE:Hid (zc0 m Tk a 2 [z]=zo5 Tk a z m):=by rw[Hid];simp only[zc0];rw[if_pos (by omega)]
     have HN:Hid (Calls Tryz.prog 123 #[.pointer (some ⟨tb,0,none⟩),.int .i64 a,.int .i64 z,.int .i64 m] wr fun e w'=>e=.returned (.bool (zo5 Tk a z m).2)/\∃ fp',Wrote lo wr w' tb (zo5 Tk a z m).1 fpk fp'):=zuu wr tb Tk fpk a z m HW.out.trie (by omega)
     go_wp2_with (first|(go_at_call 123;refine HN.out.mono ?_;rintro e w2 ⟨rfl,fp2,hw2⟩;have HW2:Hid (Wrote lo wr w2 tb (zo5 Tk a z m).1 fpk fp2):=hw2;clear hw2))
     go_ret
     exact⟨by rw[HA.out,HQ.out];simp only[List.drop];rw[HE.out];rfl,fp2,by rw[HA.out,HQ.out];simp only[List.drop];rw[HE.out];exact HW.out.trans HW2.out⟩
    ·exact absurd hdp hd
   |3,_ =>
    have HE:Hid (zc0 m Tk a 3 []=(Tk,false)):=by rw[Hid];simp only[zc0]
    go_wp2
    go_ret
    exact⟨by rw[HA.out,HQ.out];simp only[List.drop];rw[HE.out];rfl,fpk,by rw[HA.out,HQ.out];simp only[List.drop];rw[HE.out];exact HW.out⟩
theorem z2g(w:World)(tb:Nat)(T:zad)(fp:List Nat)(x y z:Nat)(h:zar lo w tb T fp) :
  Calls Tryz.prog 55 #[.pointer (some ⟨tb,0,none⟩),.agg #[.int .i64 x,.int .i64 y,.int .i64 z]] w fun e w'=>e=.returned (zof (zes T [x,y,z]))/\Below w.heap.size w w':=by
 have hi0:=Tryz.row0 (.int .i64 x) (.int .i64 y) (.int .i64 z)
 have hi1:=Tryz.row1 (.int .i64 x) (.int .i64 y) (.int .i64 z)
 have hi2:=Tryz.row2 (.int .i64 x) (.int .i64 y) (.int .i64 z)
 have hbx:∃ nv,Box w tb #[.int .i64 (T.width:Nat),.int .i64 (T.depth:Nat),nv,.int .i64 (T.count:Nat)] 168/\T.depth<=3:=by obtain⟨nv,ns,h1,_⟩:=h;exact⟨nv,h1.box,h1.deep⟩
 obtain⟨nv,hbx,hdp⟩:=hbx
 have HD:Hid (∀ W a v,Below w.heap.size w W->Calls Tryz.prog 82 #[.pointer (some ⟨tb,0,none⟩),.int .i64 ((a:Nat):Int),.int .i64 ((v:Nat):Int)] W fun e w'=>e=.returned (zof (zaw T a v))/\w'=W):=fun W a v hW=>zhv W tb T fp a v (h.below hW)
 clear h
 have HM:Hid (zes T [x,y,z]=za9 T 0 0 [x,y,z]):=rfl
 go_enter Tryz.func55,Tryz.ntmps55
 go_wp2
 go_loopw [6,12] (fun v6 v12 wr=>∃ k a:Nat,k<=3/\v12=.int .i64 k/\v6=.int .i64 a/\Hid (za9 T 0 0 [x,y,z]=za9 T a k ([x,y,z].drop k))/\Below w.heap.size w wr) (fun _ v12 _=>3 - (intOf v12).toNat)
 case atStart=>exact⟨0,0,by omega,rfl,rfl,rfl,(by go_grown)⟩
 case round =>
  obtain⟨k,a,hk,rfl,rfl,HQ,hbk⟩:=hrel
  have hbxk:=hbx.below hbk
  obtain⟨hbc,hbf⟩:=hbxk.rules
  have hbl:=hbxk.lt
  match k,hk with
  |0,_ =>
   cases hd:zaw T a x with
   |none =>
    have HE:Hid (za9 T a 0 [x,y,z]=none):=by rw[Hid];simp only[za9];rw[hd]
    have H1:=HD.out wr a x hbk
    rw[hd] at H1
    simp only[zof,Option.getD_none,Option.isSome_none] at H1
    have HH:Hid (Calls Tryz.prog 82 #[.pointer (some ⟨tb,0,none⟩),.int .i64 ((a:Nat):Int),.int .i64 ((x:Nat):Int)] wr fun e w'=>e=.returned (.tuple #[.int .i64 ((0:Nat):Int),.bool false])/\w'=wr):=H1
    clear H1 hd
    go_wp2_with (first|(go_at_call 82;refine HH.out.mono ?_;rintro e w' ⟨rfl,hww⟩;obtain rfl:=hww.symm))
    go_ret2
    exact⟨by rw[HM.out,HQ.out];simp only[List.drop];rw[HE.out];rfl,hbk⟩
   |some b =>
    have H1:=HD.out wr a x hbk
    rw[hd] at H1
    simp only[zof,Option.getD_some,Option.isSome_some] at H1
    have HH:Hid (Calls Tryz.prog 82 #[.pointer (some ⟨tb,0,none⟩),.int .i64 ((a:Nat):Int),.int .i64 ((x:Nat):Int)] wr fun e w'=>e=.returned (.tuple #[.int .i64 ((b:Nat):Int),.bool true])/\w'=wr):=H1
    clear H1
    by_cases hdd:T.depth<=1
    ·have HE:Hid (za9 T a 0 [x,y,z]=some b):=by rw[Hid];simp only[za9];rw[hd];simp only;rw[if_pos (by omega)]
     clear hd
     go_wp2_with (first|(go_at_call 82;refine HH.out.mono ?_;rintro e w' ⟨rfl,hww⟩;obtain rfl:=hww.symm))
     go_ret2
     exact⟨by rw[HM.out,HQ.out];simp only[List.drop];rw[HE.out];rfl,hbk⟩
    ·have HE:Hid (za9 T a 0 [x,y,z]=za9 T b 1 [y,z]):=by rw[Hid];simp only[za9];rw[hd];simp only;rw[if_neg (by omega)]
     clear hd
     go_wp2_with (first|(go_at_call 82;refine HH.out.mono ?_;rintro e w' ⟨rfl,hww⟩;obtain rfl:=hww.symm))
     go_roundw
     case rel=>exact⟨1,b,by omega,rfl,rfl,(by rw[HQ.out];exact HE.out),hbk⟩
     case measure=>simp[intOf]
  |1,_ =>
   cases hd:zaw T a y with
   |none =>
    have HE:Hid (za9 T a 1 [y,z]=none):=by rw[Hid];simp only[za9];rw[hd]
    have H1:=HD.out wr a y hbk
    rw[hd] at H1
    simp only[zof,Option.getD_none,Option.isSome_none] at H1
    have HH:Hid (Calls Tryz.prog 82 #[.pointer (some ⟨tb,0,none⟩),.int .i64 ((a:Nat):Int),.int .i64 ((y:Nat):Int)] wr fun e w'=>e=.returned (.tuple #[.int .i64 ((0:Nat):Int),.bool false])/\w'=wr):=H1
    clear H1 hd
    go_wp2_with (first|(go_at_call 82;refine HH.out.mono ?_;rintro e w' ⟨rfl,hww⟩;obtain rfl:=hww.symm))
    go_ret2
    exact⟨by rw[HM.out,HQ.out];simp only[List.drop];rw[HE.out];rfl,hbk⟩
   |some b =>
    have H1:=HD.out wr a y hbk
    rw[hd] at H1
    simp only[zof,Option.getD_some,Option.isSome_some] at H1
    have HH:Hid (Calls Tryz.prog 82 #[.pointer (some ⟨tb,0,none⟩),.int .i64 ((a:Nat):Int),.int .i64 ((y:Nat):Int)] wr fun e w'=>e=.returned (.tuple #[.int .i64 ((b:Nat):Int),.bool true])/\w'=wr):=H1
    clear H1
    by_cases hdd:T.depth<=2
    ·have HE:Hid (za9 T a 1 [y,z]=some b):=by rw[Hid];simp only[za9];rw[hd];simp only;rw[if_pos (by omega)]
     clear hd
     go_wp2_with (first|(go_at_call 82;refine HH.out.mono ?_;rintro e w' ⟨rfl,hww⟩;obtain rfl:=hww.symm))
     go_ret2
     exact⟨by rw[HM.out,HQ.out];simp only[List.drop];rw[HE.out];rfl,hbk⟩
    ·have HE:Hid (za9 T a 1 [y,z]=za9 T b 2 [z]):=by rw[Hid];simp only[za9];rw[hd];simp only;rw[if_neg (by omega)]
     clear hd
     go_wp2_with (first|(go_at_call 82;refine HH.out.mono ?_;rintro e w' ⟨rfl,hww⟩;obtain rfl:=hww.symm))
     go_roundw
     case rel=>exact⟨2,b,by omega,rfl,rfl,(by rw[HQ.out];exact HE.out),hbk⟩
     case measure=>simp[intOf]
  |2,_ =>
   cases hd:zaw T a z with
   |none =>
    have HE:Hid (za9 T a 2 [z]=none):=by rw[Hid];simp only[za9];rw[hd]
    have H1:=HD.out wr a z hbk
    rw[hd] at H1
    simp only[zof,Option.getD_none,Option.isSome_none] at H1
    have HH:Hid (Calls Tryz.prog 82 #[.pointer (some ⟨tb,0,none⟩),.int .i64 ((a:Nat):Int),.int .i64 ((z:Nat):Int)] wr fun e w'=>e=.returned (.tuple #[.int .i64 ((0:Nat):Int),.bool false])/\w'=wr):=H1
    clear H1 hd
    go_wp2_with (first|(go_at_call 82;refine HH.out.mono ?_;rintro e w' ⟨rfl,hww⟩;obtain rfl:=hww.symm))
    go_ret2
    exact⟨by rw[HM.out,HQ.out];simp only[List.drop];rw[HE.out];rfl,hbk⟩
   |some b =>
    have H1:=HD.out wr a z hbk
    rw[hd] at H1
    simp only[zof,Option.getD_some,Option.isSome_some] at H1
    have HH:Hid (Calls Tryz.prog 82 #[.pointer (some ⟨tb,0,none⟩),.int .i64 ((a:Nat):Int),.int .i64 ((z:Nat):Int)] wr fun e w'=>e=.returned (.tuple #[.int .i64 ((b:Nat):Int),.bool true])/\w'=wr):=H1
    clear H1
    by_cases hdd:T.depth<=3
    ·have HE:Hid (za9 T a 2 [z]=some b):=by rw[Hid];simp only[za9];rw[hd];simp only;rw[if_pos (by omega)]
     clear hd
     go_wp2_with (first|(go_at_call 82;refine HH.out.mono ?_;rintro e w' ⟨rfl,hww⟩;obtain rfl:=hww.symm))
     go_ret2
     exact⟨by rw[HM.out,HQ.out];simp only[List.drop];rw[HE.out];rfl,hbk⟩
    ·exact absurd hdp hdd
  |3,_ =>
   have HE:Hid (za9 T a 3 []=none):=by rw[Hid];simp only[za9]
   go_wp2
   go_ret2
   exact⟨by rw[HM.out,HQ.out];simp only[List.drop];rw[HE.out];rfl,hbk⟩
end Go.Proofs.YteampbddflhngabGreat
