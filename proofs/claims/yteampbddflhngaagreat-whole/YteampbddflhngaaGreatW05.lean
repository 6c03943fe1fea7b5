import Derived.Test.YteampbddflhngaaGreatW04

namespace Go.Proofs.YteampbddflhngaaGreat
set_option maxRecDepth 100000
set_option maxHeartbeats 1000000
open Go.RowKit
variable {lo:Nat}
theorem count_any(w:World)(vb:Nat)(nv:Value)(vs:List ByteArray)(hbox:Box w vb #[nv] 246)(hs:SIn lo w nv vs) :
  Calls Tryz.prog 146 #[.pointer (some ⟨vb,0,none⟩)] w fun e w'=>e=.returned (.int .i64 vs.length)/\w'=w:=by
 obtain⟨hc,hf⟩:=hbox.rules
 obtain⟨ao,cap,rfl⟩:=hs.shape
 go_enter Tryz.func146,Tryz.ntmps146
 go_wp2
 go_ret
 exact⟨rfl,rfl⟩
def zfb(vs args:List ByteArray):Bool:=args.all fun t=>!za8 t || zpl t vs
theorem zrk{α:Type}(l:List α)(p:α->Bool)(k:Nat)(hk:k < l.length):(l.drop k).all p=(p l[k] && (l.drop (k+1)).all p):=by rw[uah hk,List.all_cons]
theorem zxg{α:Type}(l:List α)(p:α->Bool)(k:Nat)(hk:k < l.length):(l.drop k).any p=(p l[k] || (l.drop (k+1)).any p):=by rw[uah hk,List.any_cons]
theorem zky(w:World)(vb:Nat)(nv:Value)(vs args:List ByteArray)(neg:Bool)(pred:ByteArray)(va:Value)(hbox:Box w vb #[nv] 246)(hv:SIn lo w nv vs){lo2:Nat}(hs:SIn lo2 w va args)(hl:vs.length<=1000)(hl2:args.length<=1000) :
  Calls Tryz.prog 149 #[.pointer (some ⟨vb,0,none⟩),.agg #[.bool neg,.string pred,va]] w fun e w'=>e=.returned (.bool (zfb vs args))/\Below w.heap.size w w':=by
 obtain⟨ao,cap,rfl⟩:=hs.shape
 have hbA:=(Below.refl w.heap.size w).alloc (uaa _) (.cells #[.bool neg,.string pred,.slice ao args.length cap] 90)
 have hbox1:=hbox.below hbA
 have hv1:=hv.below hbA
 go_enter Tryz.func149,Tryz.ntmps149
 go_wp2
 go_loop [10] (fun i=>∃ k:Nat,k<=args.length/\i=.int .i64 k/\Hid (zfb vs args=(args.drop k).all fun t=>!za8 t || zpl t vs)) (fun i=>args.length - (intOf i).toNat)
 case atStart=>exact⟨0,uaj _,rfl,rfl⟩
 case round =>
  obtain⟨k,hk,rfl,H⟩:=hrel
  by_cases hlt:k < args.length
  ·obtain⟨g,rfl,hg,hck⟩:=hs.cell k hlt
   have hdr:=zrk args (fun t=>!za8 t || zpl t vs) k hlt
   generalize args[k]=x at *
   have HD:Hid (zfb vs args=((!za8 x || zpl x vs) && (args.drop (k+1)).all fun t=>!za8 t || zpl t vs)):=by rw[Hid,H.out,hdr]
   clear hdr H
   cases hT:za8 x with
   |false =>
    have HR:Hid (zfb vs args=(args.drop (k+1)).all fun t=>!za8 t || zpl t vs):=by rw[Hid,HD.out,hT];rfl
    clear HD
    go_wp2_with (first|(go_at_call 156;refine(zbw _ _).mono ?_;rintro e w' ⟨rfl,rfl⟩))
    go_round
    case rel=>exact⟨k+1,by omega,by go_num,HR⟩
    case measure=>simp[intOf];omega
   |true =>
    cases hM:zpl x vs with
    |true =>
     have HR:Hid (zfb vs args=(args.drop (k+1)).all fun t=>!za8 t || zpl t vs):=by rw[Hid,HD.out,hM];simp
     clear HD
     go_wp2_with (first|(go_at_call 156;refine(zbw _ _).mono ?_;rintro e w' ⟨rfl,rfl⟩)|(go_at_call 183;refine(zro _ vb _ vs x hbox1 hv1 hl).mono ?_;rintro e w' ⟨rfl,rfl⟩))
     go_round
     case rel=>exact⟨k+1,by omega,by go_num,HR⟩
     case measure=>simp[intOf];omega
    |false =>
     have HR:Hid (zfb vs args=false):=by rw[Hid,HD.out,hM,hT];rfl
     clear HD
     go_wp2_with (first|(go_at_call 156;refine(zbw _ _).mono ?_;rintro e w' ⟨rfl,rfl⟩)|(go_at_call 183;refine(zro _ vb _ vs x hbox1 hv1 hl).mono ?_;rintro e w' ⟨rfl,rfl⟩))
     go_ret
     exact⟨by rw[HR.out];rfl,hbA⟩
  ·have HR:Hid (zfb vs args=true):=by rw[Hid,H.out,uaq (by omega)];rfl
   clear H
   go_wp2
   go_ret
   exact⟨by rw[HR.out];rfl,hbA⟩
def zem(c:zab):Bool:=decide (3 < c.head.args.length) || decide (6 < c.body.length) || c.body.any (fun l=>decide (3 < l.args.length)) || decide (5 < (zj7 c).length)
def ze7(c:zab):Bool:=zfb (zaf c) c.head.args && c.body.all fun l=>!l.neg || zfb (zaf c) l.args
theorem zqf(w:World)(c:zab)(va vb:Value)(hs:SIn lo w va c.head.args)(hb:LIn lo w vb c.body)(hl:c.head.args.length+zcd c.body<=1000)(hl2:c.body.length<=1000) :
  Calls Tryz.prog 101 #[.agg #[.bool c.head.neg,.string c.head.pred,va,vb]] w fun e w'=>e=.returned (.bool (zem c))/\Below w.heap.size w w':=by
 have hall:=fun W hW1 hW2=>z7x (lo:=lo) W c va vb hW1 hW2 hl hl2
 obtain⟨ao,cap,rfl⟩:=hs.shape
 obtain⟨aob,capb,rfl⟩:=hb.shape
 have HALL:Hid (∀ W,SIn lo W (.slice ao c.head.args.length cap) c.head.args->LIn lo W (.slice aob c.body.length capb) c.body->Calls Tryz.prog 145 #[.agg #[.bool c.head.neg,.string c.head.pred,.slice ao c.head.args.length cap,.slice aob c.body.length capb]] W fun e w'=>∃ nv,e=.returned (.agg #[nv])/\w'.ownsRow W.heap.size 9 1 nv (zj7 c).length ((zj7 c).map Value.string)/\Below W.heap.size W w'):=hall
 clear hall
 by_cases h1:3 < c.head.args.length∨6 < c.body.length
 ·have HM:Hid (zem c=true):=by unfold Hid zem;rcases h1 with h1|h1 <;> simp[h1]
  go_enter Tryz.func101,Tryz.ntmps101
  rcases h1 with h1|h1
  ·go_wp2
   go_ret
   exact⟨by rw[HM.out];rfl,(by go_grown)⟩
  ·by_cases h3:3 < c.head.args.length
   all_goals
    go_wp2
    go_ret
    exact⟨by rw[HM.out];rfl,(by go_grown)⟩
 ·have h3:¬ 3 < c.head.args.length:=by omega
  have h6:¬ 6 < c.body.length:=by omega
  have HM:Hid (zem c=(c.body.any (fun l=>decide (3 < l.args.length)) || decide (5 < (zj7 c).length))):=by unfold Hid zem;simp[h3,h6]
  clear h1
  go_enter Tryz.func101,Tryz.ntmps101
  go_wp2
  go_loopw [20] (fun i wr=>∃ k:Nat,k<=c.body.length/\i=.int .i64 k/\Below w.heap.size w wr/\Box wr w.heap.size #[.bool c.head.neg,.string c.head.pred,.slice ao c.head.args.length cap,.slice aob c.body.length capb] 171/\Hid (zem c=((c.body.drop k).any (fun l=>decide (3 < l.args.length)) || decide (5 < (zj7 c).length)))) (fun i _=>c.body.length - (intOf i).toNat)
  case atStart=>exact⟨0,uaj _,rfl,(by go_grown),Box.new _ _ _,HM⟩
  case round =>
   obtain⟨k,hk,rfl,hbk,hbx,H⟩:=hrel
   have hszk:=hbk.size
   by_cases hlt:k < c.body.length
   ·obtain⟨g,ao2,cap2,rfl,hg,hc0,hc1,hc2,hsk⟩:=hb.cell k hlt
    have hd0:=(hbk.cell (p:=⟨g,k * 3,none⟩) hg).trans hc0
    have hd1:=(hbk.cell (p:=⟨g,k * 3+1,none⟩) hg).trans hc1
    have hd2:=(hbk.cell (p:=⟨g,k * 3+2,none⟩) hg).trans hc2
    have hgr:g < wr.heap.size:=by omega
    have hdr:=zxg c.body (fun l=>decide (3 < l.args.length)) k hlt
    clear hc0 hc1 hc2 hsk
    generalize c.body[k]=a at *
    have HD:Hid (zem c=(decide (3 < a.args.length) || (c.body.drop (k+1)).any (fun l=>decide (3 < l.args.length)) || decide (5 < (zj7 c).length))):=by rw[Hid,H.out,hdr]
    clear hdr H HM
    by_cases h4:3 < a.args.length
    ·have HR:Hid (zem c=true):=by rw[Hid,HD.out];simp[h4]
     clear HD
     go_wp2
     go_ret
     exact⟨by rw[HR.out];rfl,(by go_grown)⟩
    ·have HR:Hid (zem c=((c.body.drop (k+1)).any (fun l=>decide (3 < l.args.length)) || decide (5 < (zj7 c).length))):=by rw[Hid,HD.out];simp[h4]
     clear HD
     go_wp2
     go_roundw
     case rel=>exact⟨k+1,by omega,by go_num,(by go_grown),hbx.below (by go_grown),HR⟩
     case measure=>simp[intOf];omega
   ·have HR:Hid (zem c=decide (5 < (zj7 c).length)):=by rw[Hid,H.out,uaq (by omega)];simp
    have hsr:=hs.below hbk
    have hbr:=hb.below hbk
    obtain⟨hc,hf⟩:=hbx.rules
    have hblt:=hbx.lt
    clear H HM
    go_wp2_with (first|(go_at_call 145;refine(HALL.out _ hsr hbr).mono ?_;rintro e w1 ⟨nv,rfl,hown,hb1⟩;obtain⟨ao3,cap3,rfl⟩:=zac hown;have hB1:=zae hbk hb1 (uaa _);have hz1:=hB1.size)|(go_at_call 146;refine(count_any _ _ _ (zj7 c) (by exact Box.new _ _ _) (by exact zaa hown (by go_grown))).mono ?_;rintro e w2 ⟨rfl,rfl⟩))
    go_ret
    exact⟨by rw[HR.out];simp;omega,(by go_grown)⟩
theorem zq0(w:World)(c:zab)(va vb:Value)(hs:SIn lo w va c.head.args)(hb:LIn lo w vb c.body)(hl:c.head.args.length+zcd c.body<=1000)(hl2:c.body.length<=1000) :
  Calls Tryz.prog 103 #[.agg #[.bool c.head.neg,.string c.head.pred,va,vb]] w fun e w'=>e=.returned (.bool (ze7 c))/\Below w.heap.size w w':=by
 have hall:=fun W hW1 hW2=>zow (lo:=lo) W c va vb hW1 hW2 hl hl2
 obtain⟨ao,cap,rfl⟩:=hs.shape
 obtain⟨aob,capb,rfl⟩:=hb.shape
 have HALL:Hid (∀ W,SIn lo W (.slice ao c.head.args.length cap) c.head.args->LIn lo W (.slice aob c.body.length capb) c.body->Calls Tryz.prog 148 #[.agg #[.bool c.head.neg,.string c.head.pred,.slice ao c.head.args.length cap,.slice aob c.body.length capb]] W fun e w'=>∃ nv,e=.returned (.agg #[nv])/\w'.ownsRow W.heap.size 9 1 nv (zaf c).length ((zaf c).map Value.string)/\Below W.heap.size W w'):=hall
 clear hall
 have hpl:(zaf c).length<=1000:=by have:=zjh c.body [];unfold zaf;simp at this;omega
 have hargs:∀ k (hk:k < c.body.length),c.body[k].args.length<=1000:=fun k hk=>by
  have:=zhd c.body k hk;rw[uac hk] at this;simp at this;omega
 have HARGS:Hid (∀ k (hk:k < c.body.length),c.body[k].args.length<=1000):=hargs
 clear hargs
 cases hH:zfb (zaf c) c.head.args with
 |false =>
  have HM:Hid (ze7 c=false):=by unfold Hid ze7;simp[hH]
  go_enter Tryz.func103,Tryz.ntmps103
  go_wp2_with (first|(go_at_call 148;refine(HALL.out _ (by exact hs.below (by go_grown)) (by exact hb.below (by go_grown))).mono ?_;rintro e w1 ⟨nv,rfl,hown,hb1⟩;obtain⟨ao3,cap3,rfl⟩:=zac hown;have hB1:=zae ((Below.refl _ _).alloc (uaa _) _) hb1 (uaa _);have hz1:=hB1.size;have hbx1:=(Box.new w _ _).below hb1;obtain⟨hc1,hf1⟩:=hbx1.rules;have hblt:=hbx1.lt)|(go_at_call 149;refine(zky _ _ _ (zaf c) c.head.args _ _ _ (by exact Box.new _ _ _) (by exact zaa hown (by go_grown)) (by exact(hs.below hB1).below (by go_grown)) hpl (by omega)).mono ?_;rintro e w2 ⟨rfl,hb2⟩;have hB2:=zae (hB1.alloc hz1 _) hb2 (uaa _)))
  go_ret
  exact⟨by rw[HM.out];rfl,hB2⟩
 |true =>
  have HM:Hid (ze7 c=c.body.all fun l=>!l.neg || zfb (zaf c) l.args):=by unfold Hid ze7;simp[hH]
  go_enter Tryz.func103,Tryz.ntmps103
  go_wp2_with (first|(go_at_call 148;refine(HALL.out _ (by exact hs.below (by go_grown)) (by exact hb.below (by go_grown))).mono ?_;rintro e w1 ⟨nv,rfl,hown,hb1⟩;obtain⟨ao3,cap3,rfl⟩:=zac hown;have hB1:=zae ((Below.refl _ _).alloc (uaa _) _) hb1 (uaa _);have hz1:=hB1.size;have hbx1:=(Box.new w _ _).below hb1;obtain⟨hc1,hf1⟩:=hbx1.rules;have hblt:=hbx1.lt)|(go_at_call 149;refine(zky _ _ _ (zaf c) c.head.args _ _ _ (by exact Box.new _ _ _) (by exact zaa hown (by go_grown)) (by exact(hs.below hB1).below (by go_grown)) hpl (by omega)).mono ?_;rintro e w2 ⟨rfl,hb2⟩;have hB2:=zae (hB1.alloc hz1 _) hb2 (uaa _);have hz2:=hb2.size;simp only[World.size_alloc] at hz2;have hbx2:=(hbx1.below ((Below.refl _ _).alloc (uaa _) _)).below hb2;obtain⟨hc2,hf2⟩:=hbx2.rules;have hblt2:=hbx2.lt;have hvb2:=(Box.new w1 _ _).below hb2;have hown2:=zaa (zaa hown ((Below.refl _ _).alloc (uaa _) _)) hb2))
  go_loopw [15] (fun i wr=>∃ k:Nat,k<=c.body.length/\i=.int .i64 k/\Below w.heap.size w wr/\Box wr w1.heap.size #[.slice ao3 (zaf c).length cap3] 246/\SIn 0 wr (.slice ao3 (zaf c).length cap3) (zaf c)/\Hid (ze7 c=(c.body.drop k).all fun l=>!l.neg || zfb (zaf c) l.args)) (fun i _=>c.body.length - (intOf i).toNat)
  case atStart=>exact⟨0,uaj _,rfl,hB2,hvb2,zbf hown2 (uaj _),HM⟩
  case round =>
   obtain⟨k,hk,rfl,hbk,hbx,hsv,H⟩:=hrel
   have hszk:=hbk.size
   by_cases hlt:k < c.body.length
   ·obtain⟨g,ao2,cap2,rfl,hg,hc0,hc1',hc2',hsk⟩:=hb.cell k hlt
    have hd0:=(hbk.cell (p:=⟨g,k * 3,none⟩) hg).trans hc0
    have hd1:=(hbk.cell (p:=⟨g,k * 3+1,none⟩) hg).trans hc1'
    have hd2:=(hbk.cell (p:=⟨g,k * 3+2,none⟩) hg).trans hc2'
    have hgr:g < wr.heap.size:=by omega
    have hdr:=zrk c.body (fun l=>!l.neg || zfb (zaf c) l.args) k hlt
    have hskr:=hsk.below hbk
    have hal:=HARGS.out k hlt
    clear hc0 hc1' hc2' hsk
    generalize c.body[k]=a at *
    have HD:Hid (ze7 c=((!a.neg || zfb (zaf c) a.args) && (c.body.drop (k+1)).all fun l=>!l.neg || zfb (zaf c) l.args)):=by rw[Hid,H.out,hdr]
    clear hdr H HM
    cases hN:a.neg with
    |false =>
     have HR:Hid (ze7 c=(c.body.drop (k+1)).all fun l=>!l.neg || zfb (zaf c) l.args):=by rw[Hid,HD.out,hN];rfl
     rw[hN] at hd0
     clear HD hN
     go_wp2
     go_roundw
     case rel=>exact⟨k+1,by omega,by go_num,(by go_grown),hbx.below (by go_grown),hsv.below (by go_grown),HR⟩
     case measure=>simp[intOf];omega
    |true =>
     rw[hN] at hd0
     cases hC:zfb (zaf c) a.args with
     |true =>
      have HR:Hid (ze7 c=(c.body.drop (k+1)).all fun l=>!l.neg || zfb (zaf c) l.args):=by rw[Hid,HD.out,hC];simp
      clear HD hN
      go_wp2_with (first|(go_at_call 149;refine(zky _ _ _ (zaf c) a.args _ _ _ (by exact hbx.below (by go_grown)) (by exact hsv.below (by go_grown)) (by exact hskr.below (by go_grown)) hpl hal).mono ?_;rintro e w3 ⟨rfl,hb3⟩;have hB3:=zae ((Below.refl wr.heap.size wr).alloc (uaa _) _) hb3 (uaa _)))
      go_roundw
      case rel=>exact⟨k+1,by omega,by go_num,zae hbk hB3 (uaa _),hbx.below hB3,hsv.below hB3,HR⟩
      case measure=>simp[intOf];omega
     |false =>
      have HR:Hid (ze7 c=false):=by rw[Hid,HD.out,hC,hN];rfl
      clear HD hN
      go_wp2_with (first|(go_at_call 149;refine(zky _ _ _ (zaf c) a.args _ _ _ (by exact hbx.below (by go_grown)) (by exact hsv.below (by go_grown)) (by exact hskr.below (by go_grown)) hpl hal).mono ?_;rintro e w3 ⟨rfl,hb3⟩;have hB3:=zae ((Below.refl wr.heap.size wr).alloc (uaa _) _) hb3 (uaa _)))
      go_ret
      exact⟨by rw[HR.out];rfl,zae hbk hB3 (uaa _)⟩
   ·have HR:Hid (ze7 c=true):=by rw[Hid,H.out,uaq (by omega)];rfl
    clear H HM
    go_wp2
    go_ret
    exact⟨by rw[HR.out];rfl,hbk⟩
theorem CIn.cell{T:TypeId}{w:World}{ao:Option Addr}{n cap:Nat}{cs:List zab}(h:CIn lo T w (.slice ao n cap) cs)(k:Nat)(hk:k < cs.length):∃ g ao2 cap2 ao3 cap3,ao=some ⟨g,0,none⟩/\g < w.heap.size ∧
  w.cell? ⟨g,k * 4,none⟩=some (.bool cs[k].head.neg)/\w.cell? ⟨g,k * 4+1,none⟩=some (.string cs[k].head.pred)/\w.cell? ⟨g,k * 4+2,none⟩=some (.slice ao2 cs[k].head.args.length cap2) ∧
  w.cell? ⟨g,k * 4+3,none⟩=some (.slice ao3 cs[k].body.length cap3)/\SIn lo w (.slice ao2 cs[k].head.args.length cap2) cs[k].head.args/\LIn lo w (.slice ao3 cs[k].body.length cap3) cs[k].body:=by
 obtain⟨xs,ho,hc⟩:=h
 obtain⟨g,cap',hv,_,hg,hcl⟩:=zal ho (by omega)
 simp at hv
 obtain⟨va,vb,a1,a2,a3,a4,a5,a6⟩:=hc.at k cs[k] (by simp[hk])
 obtain⟨ao2,cap2,rfl⟩:=a5.shape
 obtain⟨ao3,cap3,rfl⟩:=a6.shape
 exact⟨g,ao2,cap2,ao3,cap3,hv.1,hg,hcl _ _ a1,hcl _ _ a2,hcl _ _ a3,hcl _ _ a4,a5,a6⟩
def zpb(c:zab):Prop:=c.head.args.length+zcd c.body<=1000/\c.body.length<=1000
theorem zld(w:World)(v:Value)(cs:List zab)(hcs:CIn lo 171 w v cs)(hok:∀ c∈cs,zpb c)(hl:cs.length<=1000) :
  Calls Tryz.prog 61 #[v] w fun e w'=>e=.returned (.bool (cs.any zem))/\Below w.heap.size w w':=by
 obtain⟨ao,cap,rfl⟩:=hcs.shape
 have HOK:Hid (∀ c∈cs,zpb c):=hok
 clear hok
 go_enter Tryz.func61,Tryz.ntmps61
 go_wp2
 go_loopw [7] (fun i wr=>∃ k:Nat,k<=cs.length/\i=.int .i64 k/\Below w.heap.size w wr/\Hid (cs.any zem=(cs.drop k).any zem)) (fun i _=>cs.length - (intOf i).toNat)
 case atStart=>exact⟨0,uaj _,rfl,Below.refl _ _,rfl⟩
 case round =>
  obtain⟨k,hk,rfl,hbk,H⟩:=hrel
  have hszk:=hbk.size
  by_cases hlt:k < cs.length
  ·have hdr:=zxg cs zem k hlt
   obtain⟨g,ao2,cap2,ao3,cap3,rfl,hg,hc0,hc1,hc2,hc3,hsk,hlk⟩:=hcs.cell k hlt
   have hd0:=(hbk.cell (p:=⟨g,k * 4,none⟩) hg).trans hc0
   have hd1:=(hbk.cell (p:=⟨g,k * 4+1,none⟩) hg).trans hc1
   have hd2:=(hbk.cell (p:=⟨g,k * 4+2,none⟩) hg).trans hc2
   have hd3:=(hbk.cell (p:=⟨g,k * 4+3,none⟩) hg).trans hc3
   have hgr:g < wr.heap.size:=by omega
   have hskr:=hsk.below hbk
   have hlkr:=hlk.below hbk
   obtain⟨hk1,hk2⟩:=HOK.out _ (uad hlt)
   clear hc0 hc1 hc2 hc3 hsk hlk
   generalize cs[k]=a at *
   have HD:Hid (cs.any zem=(zem a || (cs.drop (k+1)).any zem)):=by rw[Hid,H.out,hdr]
   clear hdr H
   cases hM:zem a with
   |true =>
    have HR:Hid (cs.any zem=true):=by rw[Hid,HD.out,hM];rfl
    clear HD
    go_wp2_with (first|(go_at_call 101;refine(zqf _ a _ _ (by exact hskr.below (by go_grown)) (by exact hlkr.below (by go_grown)) hk1 hk2).mono ?_;rintro e w1 ⟨rfl,hb1⟩;have hB1:=zae ((Below.refl wr.heap.size wr).alloc (uaa _) _) hb1 (uaa _)))
    go_ret
    exact⟨by rw[HR.out];rfl,zae hbk hB1 (uaa _)⟩
   |false =>
    have HR:Hid (cs.any zem=(cs.drop (k+1)).any zem):=by rw[Hid,HD.out,hM];rfl
    clear HD
    go_wp2_with (first|(go_at_call 101;refine(zqf _ a _ _ (by exact hskr.below (by go_grown)) (by exact hlkr.below (by go_grown)) hk1 hk2).mono ?_;rintro e w1 ⟨rfl,hb1⟩;have hB1:=zae ((Below.refl wr.heap.size wr).alloc (uaa _) _) hb1 (uaa _)))
    go_roundw
    case rel=>exact⟨k+1,by omega,by go_num,zae hbk hB1 (uaa _),HR⟩
    case measure=>simp[intOf];omega
  ·have HR:Hid (cs.any zem=false):=by rw[Hid,H.out,uaq (by omega)];rfl
   clear H
   go_wp2
   go_ret
   exact⟨by rw[HR.out];rfl,hbk⟩
theorem zr4(w:World)(v:Value)(cs:List zab)(hcs:CIn lo 171 w v cs)(hok:∀ c∈cs,zpb c)(hl:cs.length<=1000) :
  Calls Tryz.prog 63 #[v] w fun e w'=>e=.returned (.bool (cs.all ze7))/\Below w.heap.size w w':=by
 obtain⟨ao,cap,rfl⟩:=hcs.shape
 have HOK:Hid (∀ c∈cs,zpb c):=hok
 clear hok
 go_enter Tryz.func63,Tryz.ntmps63
 go_wp2
 go_loopw [7] (fun i wr=>∃ k:Nat,k<=cs.length/\i=.int .i64 k/\Below w.heap.size w wr/\Hid (cs.all ze7=(cs.drop k).all ze7)) (fun i _=>cs.length - (intOf i).toNat)
 case atStart=>exact⟨0,uaj _,rfl,Below.refl _ _,rfl⟩
 case round =>
  obtain⟨k,hk,rfl,hbk,H⟩:=hrel
  have hszk:=hbk.size
  by_cases hlt:k < cs.length
  ·have hdr:=zrk cs ze7 k hlt
   obtain⟨g,ao2,cap2,ao3,cap3,rfl,hg,hc0,hc1,hc2,hc3,hsk,hlk⟩:=hcs.cell k hlt
   have hd0:=(hbk.cell (p:=⟨g,k * 4,none⟩) hg).trans hc0
   have hd1:=(hbk.cell (p:=⟨g,k * 4+1,none⟩) hg).trans hc1
   have hd2:=(hbk.cell (p:=⟨g,k * 4+2,none⟩) hg).trans hc2
   have hd3:=(hbk.cell (p:=⟨g,k * 4+3,none⟩) hg).trans hc3
   have hgr:g < wr.heap.size:=by omega
   have hskr:=hsk.below hbk
   have hlkr:=hlk.below hbk
   obtain⟨hk1,hk2⟩:=HOK.out _ (uad hlt)
   clear hc0 hc1 hc2 hc3 hsk hlk
   generalize cs[k]=a at *
   have HD:Hid (cs.all ze7=(ze7 a && (cs.drop (k+1)).all ze7)):=by rw[Hid,H.out,hdr]
   clear hdr H
   cases hM:ze7 a with
   |false =>
    have HR:Hid (cs.all ze7=false):=by rw[Hid,HD.out,hM];rfl
    clear HD
    go_wp2_with (first|(go_at_call 103;refine(zq0 _ a _ _ (by exact hskr.below (by go_grown)) (by exact hlkr.below (by go_grown)) hk1 hk2).mono ?_;rintro e w1 ⟨rfl,hb1⟩;have hB1:=zae ((Below.refl wr.heap.size wr).alloc (uaa _) _) hb1 (uaa _)))
    go_ret
    exact⟨by rw[HR.out];rfl,zae hbk hB1 (uaa _)⟩
   |true =>
    have HR:Hid (cs.all ze7=(cs.drop (k+1)).all ze7):=by rw[Hid,HD.out,hM];rfl
    clear HD
    go_wp2_with (first|(go_at_call 103;refine(zq0 _ a _ _ (by exact hskr.below (by go_grown)) (by exact hlkr.below (by go_grown)) hk1 hk2).mono ?_;rintro e w1 ⟨rfl,hb1⟩;have hB1:=zae ((Below.refl wr.heap.size wr).alloc (uaa _) _) hb1 (uaa _)))
    go_roundw
    case rel=>exact⟨k+1,by omega,by go_num,zae hbk hB1 (uaa _),HR⟩
    case measure=>simp[intOf];omega
  ·have HR:Hid (cs.all ze7=true):=by rw[Hid,H.out,uaq (by omega)];rfl
   clear H
   go_wp2
   go_ret
   exact⟨by rw[HR.out];rfl,hbk⟩
end Go.Proofs.YteampbddflhngaaGreat
namespace Go.Proofs.YteampbddflhngaaGreat
set_option maxRecDepth 100000
set_option maxHeartbeats 1000000
open Go.RowKit
structure zar where
 name:ByteArray
 je:Nat
 qi:Nat
def ltB(a b:ByteArray):Bool:=Op.bytesLess a.toList b.toList
def zai:List zar->ByteArray->Nat
 |[],_=>0
 |e::r,n=>if ltB e.name n then zai r n+1 else 0
theorem zfk:∀(t:List zar) (n:ByteArray),zai t n<=t.length
 |[],_=>uaa _
 |e::r,n=>by have:=zfk r n;unfold zai;split <;> simp <;> omega
theorem zkk:∀(t:List zar) (n:ByteArray) (k:Nat),(∀ j (hj:j < t.length),j < k->ltB t[j].name n=true)->k<=t.length->zai t n=k+zai (t.drop k) n
 |[],n,k,_,hk=>by simp at hk;subst hk;simp
 |e::r,n,0,_,_=>by simp
 |e::r,n,k+1,h,hk=>by
  have h0:=h 0 (by simp) (by omega)
  simp at h0
  have:=zkk r n k (fun j hj hjk=>by have:=h (j+1) (by simpa using hj) (by omega);simpa using this) (by simpa using hk)
  simp[zai,h0];omega
theorem zor(t:List zar)(n:ByteArray)(k:Nat)(h:∀ j (hj:j < t.length),j < k->ltB t[j].name n=true)(hk:k < t.length)(hn:ltB t[k].name n=false):zai t n=k:=by
 rw[zkk t n k h (by omega),uah hk,zai,hn];rfl
theorem zqp(t:List zar)(n:ByteArray)(h:∀ j (hj:j < t.length),ltB t[j].name n=true):zai t n=t.length:=by
 rw[zkk t n t.length (fun j hj _=>h j hj) (uaa _)];simp[zai]
def zcb(t:List zar):List Value:=t.flatMap fun e=>[.string e.name,.int .i64 (e.je:Int),.int .i64 (e.qi:Int)]
theorem zmf(t:List zar):(zcb t).length=t.length * 3:=by
 induction t with
 |nil=>rfl
 |cons a t ih=>simp[zcb] at ih ⊢;omega
theorem zuk:∀(t:List zar) (k:Nat) (hk:k < t.length),(zcb t)[k * 3]?=some (.string t[k].name)/\(zcb t)[k * 3+1]?=some (.int .i64 (t[k].je:Int))/\(zcb t)[k * 3+2]?=some (.int .i64 (t[k].qi:Int))
 |[],k,hk=>by simp at hk
 |e::r,0,_=>by simp[zcb]
 |e::r,k+1,hk=>by
  have:=zuk r k (by simpa using hk)
  simp only[zcb,ua5] at this ⊢
  rw[show(k+1) * 3=k * 3+1+1+1 from by omega,show k * 3+1+1+1+1=k * 3+1+1+1+1 from rfl,show k * 3+1+1+1+2=k * 3+2+1+1+1 from by omega]
  simpa using this
def TA(B:Nat)(w:World)(tb:Nat)(t:List zar):Prop:=∃ pv,Box w tb #[pv] 127/\w.ownsRow B 221 3 pv t.length (zcb t)
theorem TA.below{B:Nat}{w w':World}{tb:Nat}{t:List zar}(h:TA B w tb t)(hb:Below w.heap.size w w'):TA B w' tb t:=by
 obtain⟨nv,h1,h2⟩:=h;exact⟨nv,h1.below hb,zaa h2 hb⟩
theorem TA.view{B:Nat}{w:World}{tb:Nat}{t:List zar}(h:TA B w tb t):∃ ao cap,Box w tb #[.slice ao t.length cap] 127/\w.ownsRow B 221 3 (.slice ao t.length cap) t.length (zcb t):=by
 obtain⟨nv,h1,h2⟩:=h
 obtain⟨ao,cap,rfl⟩:=zac h2
 exact⟨ao,cap,h1,h2⟩
theorem zds{B:Nat}{w:World}{ao:Option Addr}{n cap:Nat}{t:List zar}(h:w.ownsRow B 221 3 (.slice ao n cap) t.length (zcb t))(k:Nat)(hk:k < t.length):∃ g,ao=some ⟨g,0,none⟩/\g < w.heap.size/\B<=g ∧
  w.cell? ⟨g,k * 3,none⟩=some (.string t[k].name)/\w.cell? ⟨g,k * 3+1,none⟩=some (.int .i64 (t[k].je:Int))/\w.cell? ⟨g,k * 3+2,none⟩=some (.int .i64 (t[k].qi:Int)):=by
 obtain⟨g,cap',hv,hB,hg,hcl⟩:=zal h (by omega)
 simp at hv
 obtain⟨a1,a2,a3⟩:=zuk t k hk
 exact⟨g,hv.1,hg,hB,hcl _ _ a1,hcl _ _ a2,hcl _ _ a3⟩
theorem zlj(B:Nat)(w:World)(tb:Nat)(t:List zar)(n:ByteArray)(h:TA B w tb t)(hl:t.length<=1000) :
  Calls Tryz.prog 126 #[.pointer (some ⟨tb,0,none⟩),.string n] w fun e w'=>e=.returned (.int .i64 (zai t n))/\w'=w:=by
 obtain⟨ao,cap,hbx,hown⟩:=h.view
 obtain⟨hc,hf⟩:=hbx.rules
 clear h
 go_enter Tryz.func126,Tryz.ntmps126
 go_wp2
 go_loop [5] (fun i=>∃ k:Nat,k<=t.length/\i=.int .i64 k/\Hid (∀ j (hj:j < t.length),j < k->ltB t[j].name n=true)) (fun i=>t.length - (intOf i).toNat)
 case atStart=>exact⟨0,uaj _,rfl,fun j hj h=>by omega⟩
 case round =>
  obtain⟨k,hk,rfl,H⟩:=hrel
  by_cases hlt:k < t.length
  ·obtain⟨g,rfl,hg,_,hd0,_,_⟩:=zds hown k hlt
   cases hL:ltB t[k].name n with
   |true =>
    have H2:Hid (∀ j (hj:j < t.length),j < k+1->ltB t[j].name n=true):=fun j hj h=>by
     rcases Nat.lt_or_ge j k with h'|h'
     ·exact H.out j hj h'
     ·obtain rfl:j=k:=by omega
      exact hL
    unfold ltB at hL
    generalize t[k].name=x at *
    clear H
    go_wp2
    go_round
    case rel=>exact⟨k+1,by omega,by go_num,H2⟩
    case measure=>simp[intOf];omega
   |false =>
    have H2:Hid (zai t n=k):=zor t n k H.out hlt hL
    unfold ltB at hL
    generalize t[k].name=x at *
    clear H
    go_wp2
    go_ret
    exact⟨by rw[H2.out];rfl,rfl⟩
  ·have H2:Hid (zai t n=k):=by
    have:=zqp t n (fun j hj=>H.out j hj (by omega));unfold Hid;omega
   clear H
   go_wp2
   go_ret
   exact⟨by rw[H2.out];rfl,rfl⟩
end Go.Proofs.YteampbddflhngaaGreat
namespace Go.Proofs.YteampbddflhngaaGreat
set_option maxRecDepth 100000
set_option maxHeartbeats 1000000
open Go.RowKit
variable {xs:List Value}
theorem zbt{w:World}{base:Nat}{e:TypeId}{size:Nat}{g n cap:Nat}{m:Nat}(h:w.ownsRow base e size (.slice (some ⟨g,0,none⟩) n cap) m xs)(o:Nat):w.frozen? ⟨g,o,none⟩=false:=by
 obtain⟨_,⟨hv,_⟩|⟨g',cap',cur,hv,_,hh,_⟩⟩:=h
 ·cases hv
 ·simp at hv;obtain⟨rfl,_⟩:=hv;unfold World.frozen?;rw[hh];simp
theorem zb4{w:World}{base:Nat}{e:TypeId}{size:Nat}{g n cap:Nat}{m:Nat}(h:w.ownsRow base e size (.slice (some ⟨g,0,none⟩) n cap) m xs)(j:Nat)(_:j < xs.length)(u:Value) :
  (w.setCell ⟨g,j,none⟩ u).ownsRow base e size (.slice (some ⟨g,0,none⟩) n cap) m (xs.set j u):=by
 obtain⟨hl,⟨hv,_⟩|⟨g',cap',cur,hv,hg,hh,h1,h2,h3,h4⟩⟩:=h
 ·cases hv
 ·simp at hv;obtain⟨rfl,rfl,rfl⟩:=hv
  refine⟨by simpa using hl,Or.inr ⟨g,cap,cur.setIfInBounds j u,rfl,hg,?_,h1,h2,by simpa using h3,?_⟩⟩
  ·simp[World.setCell,Array.getElem?_modify,hh]
  ·rw[← h4]
   rw[Array.toList_setIfInBounds,List.take_set]
def zbh(t:List zar)(n:ByteArray):Option zar:=match t[zai t n]? with
 |none=>none
 |some e=>if e.name=n then some e else none
theorem zch{t:List zar}{n:ByteArray}{e:zar}(h:zbh t n=some e):∃ hk:zai t n < t.length,t[zai t n]=e/\e.name=n:=by
 unfold zbh at h
 split at h
 ·cases h
 ·rename_i e' he
  split at h <;> simp at h
  subst h
  obtain⟨hk,he⟩:=uat.1 he
  exact⟨hk,he,by assumption⟩
theorem zjc{t:List zar}{n:ByteArray}(h:zbh t n=none):¬ zai t n < t.length∨∃ hk:zai t n < t.length,t[zai t n].name≠n:=by
 unfold zbh at h
 split at h
 ·rename_i he;left;rw[List.getElem?_eq_none_iff] at he;omega
 ·rename_i e he
  split at h <;> simp at h
  obtain⟨hk,he⟩:=uat.1 he
  right;exact⟨hk,by rw[he];assumption⟩
theorem zyh(B:Nat)(w:World)(tb:Nat)(t:List zar)(n:ByteArray)(h:TA B w tb t)(hl:t.length<=1000)(hn:zbh t n=none) :
  Calls Tryz.prog 77 #[.pointer (some ⟨tb,0,none⟩),.string n] w fun e w'=>e=.returned (.tuple #[.int .i64 0,.bool false])/\w'=w:=by
 have hpl:=zlj B w tb t n h hl
 obtain⟨ao,cap,hbx,hown⟩:=h.view
 obtain⟨hc,hf⟩:=hbx.rules
 have HPL:Hid (Calls Tryz.prog 126 #[.pointer (some ⟨tb,0,none⟩),.string n] w fun e w'=>e=.returned (.int .i64 (zai t n))/\w'=w):=hpl
 have hle:=zfk t n
 clear h hpl
 rcases zjc hn with hk|⟨hk,hne⟩
 ·clear hn
  generalize zai t n=k at *
  go_enter Tryz.func77,Tryz.ntmps77
  go_wp2_with (first|(go_at_call 126;refine HPL.out.mono ?_;rintro e w' ⟨rfl,rfl⟩;clear HPL))
  go_ret2
  exact⟨rfl,rfl⟩
 ·obtain⟨g,rfl,hg,_,hd0,_,_⟩:=zds hown _ hk
  have he:=zei hne
  clear hn hne
  generalize t[zai t n].name=x at *
  generalize zai t n=k at *
  go_enter Tryz.func77,Tryz.ntmps77
  go_wp2_with (first|(go_at_call 126;refine HPL.out.mono ?_;rintro e w' ⟨rfl,rfl⟩;clear HPL))
  go_ret2
  exact⟨rfl,rfl⟩
theorem zux(B:Nat)(w:World)(tb:Nat)(t:List zar)(n:ByteArray)(e0:zar)(h:TA B w tb t)(hl:t.length<=1000)(hn:zbh t n=some e0) :
  Calls Tryz.prog 77 #[.pointer (some ⟨tb,0,none⟩),.string n] w fun e w'=>e=.returned (.tuple #[.int .i64 (zai t n),.bool true])/\w'=w:=by
 have hpl:=zlj B w tb t n h hl
 obtain⟨ao,cap,hbx,hown⟩:=h.view
 obtain⟨hc,hf⟩:=hbx.rules
 have HPL:Hid (Calls Tryz.prog 126 #[.pointer (some ⟨tb,0,none⟩),.string n] w fun e w'=>e=.returned (.int .i64 (zai t n))/\w'=w):=hpl
 have hle:=zfk t n
 clear h hpl
 obtain⟨hk,hee,hnn⟩:=zch hn
 obtain⟨g,rfl,hg,_,hd0,_,hd2⟩:=zds hown _ hk
 rw[hee] at hd0 hd2
 have he:=zfm hnn
 clear hn hnn hee
 generalize e0.name=x at *
 generalize zai t n=k at *
 go_enter Tryz.func77,Tryz.ntmps77
 go_wp2_with (first|(go_at_call 126;refine HPL.out.mono ?_;rintro e w' ⟨rfl,rfl⟩;clear HPL))
 go_ret2
 exact⟨rfl,rfl⟩
theorem zw6(B:Nat)(w:World)(tb:Nat)(t:List zar)(n:ByteArray)(h:TA B w tb t)(hl:t.length<=1000)(hn:zbh t n=none) :
  Calls Tryz.prog 159 #[.pointer (some ⟨tb,0,none⟩),.string n] w fun e w'=>e=.returned (.tuple #[.int .i64 0,.bool false])/\w'=w:=by
 have HF:Hid (Calls Tryz.prog 77 #[.pointer (some ⟨tb,0,none⟩),.string n] w fun e w'=>e=.returned (.tuple #[.int .i64 0,.bool false])/\w'=w):=zyh B w tb t n h hl hn
 clear h hn hl
 go_enter Tryz.func159,Tryz.ntmps159
 go_wp2_with (first|(go_at_call 77;refine HF.out.mono ?_;rintro e w' ⟨rfl,rfl⟩;clear HF))
 go_ret2
 exact⟨rfl,rfl⟩
theorem zmy(B:Nat)(w:World)(tb:Nat)(t:List zar)(n:ByteArray)(e0:zar)(h:TA B w tb t)(hl:t.length<=1000)(hn:zbh t n=some e0) :
  Calls Tryz.prog 159 #[.pointer (some ⟨tb,0,none⟩),.string n] w fun e w'=>e=.returned (.tuple #[.int .i64 e0.qi,.bool true])/\w'=w:=by
 have HF:Hid (Calls Tryz.prog 77 #[.pointer (some ⟨tb,0,none⟩),.string n] w fun e w'=>e=.returned (.tuple #[.int .i64 (zai t n),.bool true])/\w'=w):=zux B w tb t n e0 h hl hn
 obtain⟨ao,cap,hbx,hown⟩:=h.view
 obtain⟨hc,hf⟩:=hbx.rules
 obtain⟨hk,hee,hnn⟩:=zch hn
 obtain⟨g,rfl,hg,_,hd0,_,hd2⟩:=zds hown _ hk
 rw[hee] at hd2
 clear hn hnn hee h hd0
 generalize zai t n=k at *
 go_enter Tryz.func159,Tryz.ntmps159
 go_wp2_with (first|(go_at_call 77;refine HF.out.mono ?_;rintro e w' ⟨rfl,rfl⟩;clear HF))
 go_ret2
 exact⟨rfl,rfl⟩
theorem zqo:∀(t:List zar) (k:Nat) (e:zar) (hk:k < t.length),t[k].name=e.name->t[k].je=e.je->(zcb t).set (k * 3+2) (.int .i64 (e.qi:Int))=zcb (t.set k e)
 |[],k,_,hk,_,_=>by simp at hk
 |a::r,0,e,_,h1,h2=>by simp at h1 h2;simp[zcb,h1,h2]
 |a::r,k+1,e,hk,h1,h2=>by
  have:=zqo r k e (by simpa using hk) (by simpa using h1) (by simpa using h2)
  simp only[zcb,ua5,uc9] at this ⊢
  rw[show(k+1) * 3+2=k * 3+2+1+1+1 from by omega]
  simpa using this
def zcc(t:List zar)(n:ByteArray)(s:Nat):List zar × Bool:=match zbh t n with
 |none=>(t,false)
 |some e=>if s<=e.qi then(t,false) else(t.set (zai t n) { e with qi:=s },true)
theorem zz9(t:List zar)(n:ByteArray)(s:Nat):(zcc t n s).1.length=t.length:=by
 unfold zcc;split
 ·rfl
 ·split <;> simp
theorem raise_any(B:Nat)(w:World)(tb:Nat)(t:List zar)(n:ByteArray)(s:Nat)(h:TA B w tb t)(hl:t.length<=1000)(_:s<=3000000) :
  Calls Tryz.prog 151 #[.pointer (some ⟨tb,0,none⟩),.string n,.int .i64 s] w fun e w'=>e=.returned (.bool (zcc t n s).2)/\TA B w' tb (zcc t n s).1/\Below B w w':=by
 obtain⟨ao,cap,hbx,hown⟩:=h.view
 obtain⟨hc,hf⟩:=hbx.rules
 have hle:=zfk t n
 have HT:Hid (TA B w tb t):=h
 cases hn:zbh t n with
 |none =>
  have HR:Hid (zcc t n s=(t,false)):=by unfold Hid zcc;rw[hn]
  have HF:Hid (Calls Tryz.prog 77 #[.pointer (some ⟨tb,0,none⟩),.string n] w fun e w'=>e=.returned (.tuple #[.int .i64 0,.bool false])/\w'=w):=zyh B w tb t n h hl hn
  rw[HR.out]
  clear hn HR h
  go_enter Tryz.func151,Tryz.ntmps151
  go_wp2_with (first|(go_at_call 77;refine HF.out.mono ?_;rintro e w' ⟨rfl,rfl⟩;clear HF))
  go_ret
  exact⟨rfl,HT,Below.refl _ _⟩
 |some e0 =>
  have HF:Hid (Calls Tryz.prog 77 #[.pointer (some ⟨tb,0,none⟩),.string n] w fun e w'=>e=.returned (.tuple #[.int .i64 (zai t n),.bool true])/\w'=w):=zux B w tb t n e0 h hl hn
  obtain⟨hk,hee,hnn⟩:=zch hn
  obtain⟨g,rfl,hg,hBg,hd0,_,hd2⟩:=zds hown _ hk
  have hfz:=zbt hown
  by_cases hse:s<=e0.qi
  ·have HR:Hid (zcc t n s=(t,false)):=by unfold Hid zcc;rw[hn];simp[hse]
   rw[HR.out]
   rw[hee] at hd0 hd2
   clear hn hnn HR hee h hd0
   generalize zai t n=k at *
   go_enter Tryz.func151,Tryz.ntmps151
   go_wp2_with (first|(go_at_call 77;refine HF.out.mono ?_;rintro e w' ⟨rfl,rfl⟩;clear HF))
   go_ret
   exact⟨rfl,HT,Below.refl _ _⟩
  ·have HR:Hid (zcc t n s=(t.set (zai t n) { e0 with qi:=s },true)):=by unfold Hid zcc;rw[hn];simp[hse]
   rw[HR.out]
   have hset:=zb4 hown (zai t n * 3+2) (by rw[zmf];omega) (.int .i64 (s:Int))
   rw[zqo t (zai t n) { e0 with qi:=s } hk (by rw[hee]) (by rw[hee])] at hset
   have hneg:tb≠g:=by
    intro hgg;subst hgg
    obtain⟨_,⟨hv,_⟩|⟨g',cap',cur,hv,_,hh,_⟩⟩:=hown
    ·cases hv
    ·simp at hv;obtain⟨rfl,_⟩:=hv;unfold Box at hbx;rw[hh] at hbx;simp at hbx
   have hbx2:=hbx.set_ne hneg (zai t n * 3+2) (.int .i64 (s:Int))
   have HFT:Hid (TA B (w.setCell ⟨g,zai t n * 3+2,none⟩ (.int .i64 (s:Int))) tb (t.set (zai t n) { e0 with qi:=s })):=⟨_,hbx2,by simpa using hset⟩
   have hse':e0.qi < s:=by omega
   rw[hee] at hd0 hd2
   clear hn hnn HR hee hset hbx2 hse h hd0
   generalize t.set (zai t n) { e0 with qi:=s }=t2 at *
   generalize zai t n=k at *
   go_enter Tryz.func151,Tryz.ntmps151
   go_wp2_with (first|(go_at_call 77;refine HF.out.mono ?_;rintro e w' ⟨rfl,rfl⟩;clear HF))
   go_ret
   exact⟨rfl,HFT,(Below.refl _ _).setCell hBg _⟩
end Go.Proofs.YteampbddflhngaaGreat
