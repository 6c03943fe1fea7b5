import Derived.Test.YteampbddflhngabGreatZ01
import Derived.Deep.QuietTactic
import Derived.BigQuiet
import Derived.Deep.LoopGhost

namespace Go.Proofs.YteampbddflhngabGreat
set_option maxRecDepth 100000
set_option maxHeartbeats 1000000
open Go.RowKit
theorem zlt(k:Int)(w:World) :
  Calls Tryz.prog 130 #[.int .i64 k] w fun e w'=>e=.returned (.bool (isT k))/\w'=w:=by
 go_enter Tryz.func130,Tryz.ntmps130
 go_wp2
 all_goals go_ret
 all_goals go_light
 all_goals exact⟨by simp_all [isT],rfl⟩
theorem zh2(w:World)(r:Nat)(wv:Value)(l rest:List Tok)(h:Rd w r wv l rest)(_:l.length<=500) :
  Calls Tryz.prog 116 #[.pointer (some ⟨r,0,none⟩)] w fun e w'=>e=.returned (.agg #[.int .i64 (hdK rest),.string (rest.headD (0,ByteArray.empty)).2])/\Below w.heap.size w w':=by
 have hlt:=h.lt
 obtain⟨p,ao,cap,hp,hr,rfl,hblk,hc0,hc1,hfz,hx⟩:=h.view
 clear h
 cases rest with
 |nil =>
  have hpl:p=l.length:=by
   have:=congrArg List.length hr;simp at this;omega
  clear hr hx
  subst hpl
  go_enter Tryz.func116,Tryz.ntmps116
  go_wp2
  go_quiet (fail)
  go_wp2
  go_returns
  exact⟨rfl,(by repeat'(first|with_reducible(first|exact zR _ _|assumption|refine zN ?_ _|refine zA ?_ ?_ _|refine zD ?_|refine zS ?_ ?_ _)|go_size))⟩
 |cons x r' =>
  obtain⟨k,t⟩:=x
  obtain⟨g,rfl,hg,hpl,hg0,hg1⟩:=hx k t r' rfl
  clear hx hr
  go_enter Tryz.func116,Tryz.ntmps116
  go_wp2
  go_quiet (fail)
  go_wp2
  go_region
  all_goals go_wp2
  all_goals exact bodyPost_ret (v:=.agg #[.int .i64 k,.string t]) (by simp[results,Tryz.results116,go_sem]) rfl ⟨rfl,(by repeat'(first|with_reducible(first|exact zR _ _|assumption|refine zN ?_ _|refine zA ?_ ?_ _|refine zD ?_|refine zS ?_ ?_ _)|go_size))⟩
theorem take_any(w:World)(r:Nat)(wv:Value)(l rest:List Tok)(k:Int)(h:Rd w r wv l rest)(hl:l.length<=500)(hk:k≠0) :
  Calls Tryz.prog 89 #[.pointer (some ⟨r,0,none⟩),.int .i64 k] w fun e w'=>e=.returned (.bool (hdK rest == k))/\Rd w' r wv l (if hdK rest=k then rest.tail else rest)/\But r w w':=by
 have hpk:=zh2 w r wv l rest h hl
 by_cases hh:hdK rest=k
 ·obtain⟨p,ao,cap,hp,hr,hwv,hblk,hc0,hc1,hfz,hx⟩:=h.view
  have hw:=h.words
  have hlt:=h.lt
  cases rest with
  |nil=>exact absurd hh.symm hk
  |cons x r' =>
   obtain⟨k',t⟩:=x
   obtain⟨g,_,hg,hpl,hg0,hg1⟩:=hx k' t r' rfl
   have HR:Hid ((k',t)::r'=l.drop p):=hr
   simp only[hdK] at hh hpk ⊢
   subst hh
   simp only[if_true,beq_self_eq_true,List.tail_cons]
   clear hx h hg0 hg1 hc0 hwv hk hr
   go_enter Tryz.func89,Tryz.ntmps89
   go_wp2_with (first|(go_at_call 116;(refine hpk.mono ?_;rintro e w1 ⟨rfl,hb1⟩;clear hpk;have hz:=hb1.size;have hlt1:r < w1.heap.size:=(by omega);have hd1:=(hb1.cell (p:=⟨r,1,none⟩) hlt).trans hc1;have hf1:=(hb1.frozen (p:=⟨r,1,none⟩) hlt).trans (hfz 1))))
   go_ret
   refine⟨rfl,?_,?_⟩
   ·obtain⟨bs,hw⟩:=hw
    exact(Rd.next (w:=w1) (rest:=(k',t)::r') ((hb1.block r hlt).trans hblk) hpl HR ⟨bs,zaa hw hb1⟩).below ((Below.refl _ _).alloc (Nat.le_refl _) _)
   ·have hB:=But.of (r:=r) hb1
    exact(by repeat'(first|(with_reducible exact But.refl _ _)|(with_reducible assumption)|(with_reducible refine But.drewN ?_ _)|(with_reducible refine But.alloc ?_ _)|(with_reducible refine But.drew ?_)|(with_reducible refine But.setCell ?_ _ _)|(with_reducible refine But.setNew ?_ ?_ _)|go_size))
 ·rw[if_neg hh]
  have hbq:(hdK rest == k)=false:=by simpa using hh
  rw[hbq]
  clear hh
  generalize hdK rest=kd at *
  go_enter Tryz.func89,Tryz.ntmps89
  go_wp2_with (first|(go_at_call 116;refine hpk.mono ?_;rintro e w1 ⟨rfl,hb1⟩;clear hpk))
  go_ret
  exact⟨rfl,h.below (hb1.alloc hb1.size _),But.of (hb1.alloc hb1.size _)⟩
theorem zdt(w:World)(r:Nat)(wv:Value)(l rest:List Tok)(k:Int)(h:Rd w r wv l rest)(hl:l.length<=500)(hk:k≠0)(hh:hdK rest=k) :
  Calls Tryz.prog 89 #[.pointer (some ⟨r,0,none⟩),.int .i64 k] w fun e w'=>e=.returned (.bool true)/\Rd w' r wv l rest.tail/\But r w w':=by
 have:=take_any w r wv l rest k h hl hk
 rw[if_pos hh,hh,beq_self_eq_true] at this
 exact this
theorem zi3(w:World)(r:Nat)(wv:Value)(l rest:List Tok)(k:Int)(h:Rd w r wv l rest)(hl:l.length<=500)(hk:k≠0)(hh:hdK rest≠k) :
  Calls Tryz.prog 89 #[.pointer (some ⟨r,0,none⟩),.int .i64 k] w fun e w'=>e=.returned (.bool false)/\Rd w' r wv l rest/\But r w w':=by
 have:=take_any w r wv l rest k h hl hk
 rw[if_neg hh,show(hdK rest == k)=false by simpa using hh] at this
 exact this
end Go.Proofs.YteampbddflhngabGreat
namespace Go.Proofs.YteampbddflhngabGreat
set_option maxRecDepth 100000
set_option maxHeartbeats 1000000
open Go.RowKit
variable {lo:Nat}
theorem Tryz.infoString:(Tryz.prog.info? 9).map (fun i=>(i.zero,i.size,i.bytes))=some (some (.string ByteArray.empty),1,16):=by kernel_rfl
def zii(w:World)(r:Nat)(wv:Value)(l rest:List Tok)(e:Ending)(w':World):Prop :=
 But r w w'/\match zbr rest with
  |none=>e=.returned (.tuple #[.slice none 0 0,.bool false])
  |some (ts,r2)=>∃ v,e=.returned (.tuple #[v,.bool true])/\SIn w.heap.size w' v ts/\Rd w' r wv l r2
theorem zjs{w w':World}{r:Nat}{wv:Value}{l rest:List Tok}(h:Hid (zbr rest=none))(hb:But r w w'):zii w r wv l rest (.returned (.tuple #[.slice none 0 0,.bool false])) w':=by
 have h':zbr rest=none:=h
 unfold zii;rw[h'];exact⟨hb,rfl⟩
theorem zo5{w w':World}{r:Nat}{wv v:Value}{l rest r2:List Tok}{ts:List ByteArray}(h:Hid (zbr rest=some (ts,r2)))(hb:But r w w')(hs:SIn w.heap.size w' v ts)(hr:Rd w' r wv l r2) :
  zii w r wv l rest (.returned (.tuple #[v,.bool true])) w':=by
 have h':zbr rest=some (ts,r2):=h
 unfold zii;rw[h'];exact⟨hb,v,rfl,hs,hr⟩
theorem zth{α β:Type}(o:Option (List α × β))(acc:List α)(x:α):((o.map fun z=>(x::z.1,z.2)).map fun z=>(acc++z.1,z.2))=o.map fun z=>((acc++[x])++z.1,z.2):=by cases o <;> simp
theorem zt8(w:World)(r:Nat)(wv:Value)(l rest:List Tok)(h:Rd w r wv l rest)(hl:l.length<=500) :
  Calls Tryz.prog 117 #[.pointer (some ⟨r,0,none⟩)] w fun e w'=>zii w r wv l rest e w':=by
 obtain⟨i0,hi,hz0,hz1,hz2⟩:=info_parts Tryz.infoString
 have hlt:=h.lt
 go_enter Tryz.func117,Tryz.ntmps117
 go_wp2
 go_loopg [4,5] (rest.length) (fun n v t wr=>∃(acc:List ByteArray) (rst:List Tok) (more:Bool),t=.bool more/\rst.length<=n/\rst.length+acc.length<=rest.length ∧
   wr.ownsRow w.heap.size 9 1 v acc.length (acc.map Value.string)/\Rd wr r wv l rst/\But r w wr ∧
   Hid (more=true->zbr rest=(zbr rst).map fun z=>(acc++z.1,z.2))/\Hid (more=false->zbr rest=some (acc,rst)))
 case atStart=>exact⟨[],rest,true,rfl,Nat.le_refl _,by simp,World.ownsRow_nil _ _ _ _,h,But.refl _ _,(fun _=>by simp),(fun h=>by cases h)⟩
 case round =>
  obtain⟨acc,rst,more,rfl,hn,hra,hown,hrd,hbut,H1,H2⟩:=hrel
  have hrl:rest.length<=l.length:=by
   obtain⟨p,_,hp,_⟩:=h.box;rw[hp];simp
  have hws:=hbut.size
  have hltr:=hrd.lt
  cases more with
  |false =>
   have H3:Hid (zbr rest=some (acc,rst)):=H2 rfl
   clear H1 H2
   go_wp2
   go_ret2
   exact zo5 H3 hbut hown hrd
  |true =>
   have hpk:=zh2 wr r wv l rst hrd hl
   cases rst with
   |nil =>
    have H3:Hid (zbr rest=none):=by rw[Hid.out H1 rfl];simp[zbr,Hid]
    clear H1 H2
    have hT:isT 0=false:=rfl
    simp only[hdK] at hpk
    go_wp2_with (first|(go_at_call 116;refine hpk.mono ?_;rintro e w1 ⟨rfl,hb1⟩;clear hpk;have hz:=hb1.size)|(go_at_call 130;refine(zlt _ _).mono ?_;rintro e w' ⟨rfl,rfl⟩))
    go_ret2
    have hB:=hbut.trans (But.of hb1)
    exact zjs H3 (by repeat'(first|(with_reducible exact But.refl _ _)|(with_reducible assumption)|(with_reducible refine But.drewN ?_ _)|(with_reducible refine But.alloc ?_ _)|(with_reducible refine But.drew ?_)|(with_reducible refine But.setCell ?_ _ _)|(with_reducible refine But.setNew ?_ ?_ _)|go_size))
   |cons x r1 =>
    obtain⟨k,t⟩:=x
    simp only[hdK,List.headD_cons] at hpk
    cases hT:isT k with
    |false =>
     have H3:Hid (zbr rest=none):=by rw[Hid.out H1 rfl,z2k hT];simp[Hid]
     clear H1 H2
     go_wp2_with (first|(go_at_call 116;refine hpk.mono ?_;rintro e w1 ⟨rfl,hb1⟩;clear hpk;have hz:=hb1.size)|(go_at_call 130;refine(zlt _ _).mono ?_;rintro e w' ⟨rfl,rfl⟩))
     go_ret2
     have hB:=hbut.trans (But.of hb1)
     exact zjs H3 (by repeat'(first|(with_reducible exact But.refl _ _)|(with_reducible assumption)|(with_reducible refine But.drewN ?_ _)|(with_reducible refine But.alloc ?_ _)|(with_reducible refine But.drew ?_)|(with_reducible refine But.setCell ?_ _ _)|(with_reducible refine But.setNew ?_ ?_ _)|go_size))
    |true =>
     obtain⟨p,ao,cap,hp,hr,hwv,hblk,hc0,hc1,hfz,hx⟩:=hrd.view
     obtain⟨g,_,hg,hpl,hg0,hg1⟩:=hx k t r1 rfl
     have HR:Hid ((k,t)::r1=l.drop p):=hr
     have HW:Hid (wv=.slice ao l.length cap):=hwv
     clear hx hr hg0 hg1 hc0 hwv
     go_wp2_with (first|(go_at_call 116;refine hpk.mono ?_;rintro e w1 ⟨rfl,hb1⟩;clear hpk;have hz:=hb1.size;have hlt1:r < w1.heap.size:=(by omega);have hd1:=(hb1.cell (p:=⟨r,1,none⟩) hltr).trans hc1;have hf1:=(hb1.frozen (p:=⟨r,1,none⟩) hltr).trans (hfz 1);have hbA:=hb1;have hrdO:=Rd.next (w:=w1) (rest:=(k,t)::r1) ((hb1.block r hltr).trans hblk) hpl HR ⟨_,zaa hrd.words.choose_spec hb1⟩;have hoO:=zb8 (zaa hown hb1) ((But.refl r w1).setCell 1 (.int .i64 ((p:Int)+1))) ((hb1.block r hltr).trans hblk) (by decide);have hbO:=(hbut.trans (But.of hb1)).setCell 1 (.int .i64 ((p:Int)+1));have hzO:(w1.setCell ⟨r,1,none⟩ (.int .i64 ((p:Int)+1))).heap.size=w1.heap.size:=(by simp);clear hbA)|(go_at_call 130;refine(zlt _ _).mono ?_;rintro e w' ⟨rfl,rfl⟩)|(at_builtin;refine zgy (w1.setCell ⟨r,1,none⟩ (.int .i64 ((p:Int)+1))) _ _ _ rfl (.tmp 21) (.tmp 24) 38 rfl w.heap.size 9 i0 _ 1 16 Tryz.underlying38 hi hz0 hz1 hz2 rfl (by decide) _ _ _ rfl hoO ((Below.refl _ _).alloc (Nat.le_refl _) _) _ _ rfl (by simp) rfl (by simp[Value.oneCell']) (by simp at hra;omega) (by omega) (by omega) ?_;intro v' w2 ho2 hB2 hc2 hf2 hk2 hz2';clear hc2 hf2 hk2;have hrd2:=Rd.keep h hrdO hB2;have hbut2:=hbO.onto hB2;have htk:=take_any w2 r wv l r1 6 hrd2 hl (by decide))|(go_at_call 89;refine htk.mono ?_;rintro e w3 ⟨rfl,hrd3,hbut3⟩;clear htk))
     obtain⟨c3,f3,hcell⟩:=hrd2.cell
     have ho3:=zb8 ho2 hbut3 hcell (by decide)
     have hP:=Hid.out H1 trivial
     simp only[List.length_cons] at hn hra
     have htl:(if hdK r1=6 then r1.tail else r1).length<=r1.length:=by split <;> simp
     go_roundg r1.length
     case measure=>omega
     case rel =>
      refine⟨acc++[t],(if hdK r1=6 then r1.tail else r1),(hdK r1 == 6),rfl,htl,by simp;omega,by simpa using ho3,hrd3,hbut2.trans hbut3,?_,?_⟩
      ·intro h6
       have h6':hdK r1=6:=by simpa using h6
       rw[if_pos h6',hP,zvw hT h6',zth]
      ·intro h6
       have h6':hdK r1≠6:=by simpa using h6
       rw[if_neg h6',hP,zvx hT h6'];simp
theorem z6e(w:World)(r:Nat)(wv:Value)(l rest:List Tok)(h:Rd w r wv l rest)(hl:l.length<=500)(hp:zbr rest=none) :
  Calls Tryz.prog 117 #[.pointer (some ⟨r,0,none⟩)] w fun e w'=>e=.returned (.tuple #[.slice none 0 0,.bool false])/\But r w w':=by
 refine(zt8 w r wv l rest h hl).mono ?_
 rintro e w' ⟨h1,h2⟩
 rw[hp] at h2
 exact⟨h2,h1⟩
theorem zt9(w:World)(r:Nat)(wv:Value)(l rest r2:List Tok)(ts:List ByteArray)(h:Rd w r wv l rest)(hl:l.length<=500)(hp:zbr rest=some (ts,r2)) :
  Calls Tryz.prog 117 #[.pointer (some ⟨r,0,none⟩)] w fun e w'=>∃ v,e=.returned (.tuple #[v,.bool true])/\SIn w.heap.size w' v ts/\Rd w' r wv l r2/\But r w w':=by
 refine(zt8 w r wv l rest h hl).mono ?_
 rintro e w' ⟨h1,h2⟩
 rw[hp] at h2
 obtain⟨v,a,b,c⟩:=h2
 exact⟨v,a,b,c,h1⟩
def zge(o:Option (zbz × List Tok))(w:World)(r:Nat)(wv:Value)(l:List Tok)(e:Ending)(w':World):Prop :=
 But r w w'/\match o with
  |none=>e=.returned (.tuple #[.agg #[.bool false,.string ByteArray.empty,.slice none 0 0],.bool false])
  |some (a,r2)=>∃ va,e=.returned (.tuple #[.agg #[.bool a.neg,.string a.pred,va],.bool true])/\SIn w.heap.size w' va a.args/\Rd w' r wv l r2
theorem z6w(w:World)(r:Nat)(wv:Value)(l rest:List Tok)(h:Rd w r wv l rest)(hl:l.length<=500)(h1:(hdK rest == 1)=false) :
  Calls Tryz.prog 88 #[.pointer (some ⟨r,0,none⟩)] w fun e w'=>zge none w r wv l e w':=by
 have hlt:=h.lt
 have hne:w.heap.size≠r:=by omega
 go_enter Tryz.func88,Tryz.ntmps88
 go_wp2_with (first|(go_at_call 116;refine(zh2 _ r wv l rest (by exact h.below (by go_grown)) hl).mono ?_;rintro e w1 ⟨rfl,hb1⟩;have hB1:=zae ((Below.refl _ _).alloc (Nat.le_refl _) _) hb1 (Nat.le_refl _);have hx1:=(Box.new w _ _).below hb1;have hr1:=h.below hB1)|(go_at_call 89;refine(take_any _ r wv l rest 1 (by exact hr1.below (by go_grown)) hl (by decide)).mono ?_;rintro e w2 ⟨rfl,hrd2,hbut2⟩;have hx2:=(hx1.below ((Below.refl _ _).alloc (Nat.le_refl _) _)).but hbut2 hne;obtain⟨hc2,hf2⟩:=hx2.rules))
 have hB:=(But.of hB1).trans (((But.refl r w1).alloc _).trans hbut2)
 exact bodyPost_ret (v:=.tuple #[.agg #[.bool false,.string ByteArray.empty,.slice none 0 0],.bool false]) (by simp[results,Tryz.results88,go_sem,hc2];rfl) rfl ⟨(by repeat'(first|(with_reducible exact But.refl _ _)|(with_reducible assumption)|(with_reducible refine But.drewN ?_ _)|(with_reducible refine But.alloc ?_ _)|(with_reducible refine But.drew ?_)|(with_reducible refine But.setCell ?_ _ _)|(with_reducible refine But.setNew ?_ ?_ _)|go_size)),rfl⟩
theorem z0h(w:World)(r:Nat)(wv:Value)(l rest:List Tok)(h:Rd w r wv l rest)(hl:l.length<=500)(h1:hdK rest=1)(h4:hdK rest.tail≠4) :
  Calls Tryz.prog 88 #[.pointer (some ⟨r,0,none⟩)] w fun e w'=>zge (some (⟨false,(rest.headD (0,ByteArray.empty)).2,[]⟩,rest.tail)) w r wv l e w':=by
 have hlt:=h.lt
 have hne:w.heap.size≠r:=by omega
 generalize ht:(rest.headD (0,ByteArray.empty)).2=t
 have HT:Hid ((rest.headD (0,ByteArray.empty)).2=t):=ht
 clear ht
 have H1:Hid (hdK rest=1):=h1
 have HPK:Hid (∀ W,Rd W r wv l rest->Calls Tryz.prog 116 #[.pointer (some ⟨r,0,none⟩)] W fun e w'=>e=.returned (.agg #[.int .i64 1,.string t])/\Below W.heap.size W w'):=fun W hW=>by
  have:=zh2 W r wv l rest hW hl
  rw[h1,Hid.out HT] at this
  exact this
 have H4:Hid (hdK rest.tail≠4):=h4
 clear h1 h4 HT
 go_enter Tryz.func88,Tryz.ntmps88
 go_wp2_with (first|(go_at_call 116;refine(Hid.out HPK _ (by exact h.below (by go_grown))).mono ?_;rintro e w1 ⟨rfl,hb1⟩;have hB1:=zae ((Below.refl _ _).alloc (Nat.le_refl _) _) hb1 (Nat.le_refl _);have hx1:=(Box.new w _ _).below hb1;have hz1:=hx1.lt;have hr1:=h.below hB1;have hlt1:r < w1.heap.size:=(by omega);have hne1:w1.heap.size≠r:=(by omega))|(go_at_call 89;have hq:=hr2;refine(zi3 _ r wv l rest.tail 4 hq hl (by decide) H4).mono ?_;rintro e w3 ⟨rfl,hr3,hbut3⟩;have hx3:=hx2.but hbut3 hne;have hy3:=hy2.but hbut3 hne1;clear hc2 hf2 hd2 he2;obtain⟨hc3,hf3⟩:=hx3.rules;obtain⟨hd3,he3⟩:=hy3.rules;have hz3:=hx3.lt;have hzy3:=hy3.lt;have hlt3:=hr3.lt;have hB3:=hB2.trans hbut3;clear hq)|(go_at_call 89;have hq:=hr1;refine(zdt _ r wv l rest 1 (by exact hq.below (by go_grown)) hl (by decide) H1).mono ?_;rintro e w2 ⟨rfl,hr2,hbut2⟩;have hx2:=(hx1.below ((Below.refl _ _).alloc (Nat.le_refl _) _)).but hbut2 hne;have hy2:=(Box.new w1 _ _).but hbut2 hne1;obtain⟨hc2,hf2⟩:=hx2.rules;obtain⟨hd2,he2⟩:=hy2.rules;have hz2:=hx2.lt;have hzy2:=hy2.lt;have hlt2:=hr2.lt;have hB2:=(But.of hB1).trans (((But.refl r w1).alloc _).trans hbut2);clear hq))
 exact bodyPost_ret (v:=.tuple #[.agg #[.bool false,.string t,.slice none 0 0],.bool true]) (by simp[results,Tryz.results88,go_sem,hc3]) rfl ⟨(by repeat'(first|(with_reducible exact But.refl _ _)|(with_reducible assumption)|(with_reducible refine But.drewN ?_ _)|(with_reducible refine But.alloc ?_ _)|(with_reducible refine But.drew ?_)|(with_reducible refine But.setCell ?_ _ _)|(with_reducible refine But.setNew ?_ ?_ _)|go_size)),_,rfl,SIn.nil _,h.keep hr3 (by go_grown)⟩
theorem z0i(w:World)(r:Nat)(wv:Value)(l rest:List Tok)(h:Rd w r wv l rest)(hl:l.length<=500)(h1:hdK rest=1)(h4:hdK rest.tail=4)(h5:zbr rest.tail.tail=none) :
  Calls Tryz.prog 88 #[.pointer (some ⟨r,0,none⟩)] w fun e w'=>zge none w r wv l e w':=by
 have hlt:=h.lt
 have hne:w.heap.size≠r:=by omega
 obtain⟨t,HT⟩:∃ t,Hid ((rest.headD (0,ByteArray.empty)).2=t):=⟨_,rfl⟩
 have H1:Hid (hdK rest=1):=h1
 have HPK:Hid (∀ W,Rd W r wv l rest->Calls Tryz.prog 116 #[.pointer (some ⟨r,0,none⟩)] W fun e w'=>e=.returned (.agg #[.int .i64 1,.string t])/\Below W.heap.size W w'):=fun W hW=>by
  have:=zh2 W r wv l rest hW hl
  rw[h1,Hid.out HT] at this
  exact this
 have H4:Hid (hdK rest.tail=4):=h4
 have H5:Hid (zbr rest.tail.tail=none):=h5
 clear h1 h4 h5 HT
 go_enter Tryz.func88,Tryz.ntmps88
 go_wp2_with (first|(go_at_call 116;refine(Hid.out HPK _ (by exact h.below (by go_grown))).mono ?_;rintro e w1 ⟨rfl,hb1⟩;have hB1:=zae ((Below.refl _ _).alloc (Nat.le_refl _) _) hb1 (Nat.le_refl _);have hx1:=(Box.new w _ _).below hb1;have hz1:=hx1.lt;have hr1:=h.below hB1;have hlt1:r < w1.heap.size:=(by omega);have hne1:w1.heap.size≠r:=(by omega))|(go_at_call 117;refine(z6e _ r wv l rest.tail.tail hr3 hl H5).mono ?_;rintro e w4 ⟨rfl,hbut4⟩;have hx4:=hx3.but hbut4 hne;have hy4:=hy3.but hbut4 hne1;clear hc3 hf3 hd3 he3;obtain⟨hc4,hf4⟩:=hx4.rules;obtain⟨hd4,he4⟩:=hy4.rules;have hz4:=hx4.lt;have hzy4:=hy4.lt;have hB4:=hB3.trans hbut4)|(go_at_call 89;have hq:=hr2;refine(zdt _ r wv l rest.tail 4 hq hl (by decide) H4).mono ?_;rintro e w3 ⟨rfl,hr3,hbut3⟩;have hx3:=hx2.but hbut3 hne;have hy3:=hy2.but hbut3 hne1;clear hc2 hf2 hd2 he2;obtain⟨hc3,hf3⟩:=hx3.rules;obtain⟨hd3,he3⟩:=hy3.rules;have hz3:=hx3.lt;have hzy3:=hy3.lt;have hlt3:=hr3.lt;have hB3:=hB2.trans hbut3;clear hq)|(go_at_call 89;have hq:=hr1;refine(zdt _ r wv l rest 1 (by exact hq.below (by go_grown)) hl (by decide) H1).mono ?_;rintro e w2 ⟨rfl,hr2,hbut2⟩;have hx2:=(hx1.below ((Below.refl _ _).alloc (Nat.le_refl _) _)).but hbut2 hne;have hy2:=(Box.new w1 _ _).but hbut2 hne1;obtain⟨hc2,hf2⟩:=hx2.rules;obtain⟨hd2,he2⟩:=hy2.rules;have hz2:=hx2.lt;have hzy2:=hy2.lt;have hlt2:=hr2.lt;have hB2:=(But.of hB1).trans (((But.refl r w1).alloc _).trans hbut2);clear hq))
 exact bodyPost_ret (v:=.tuple #[.agg #[.bool false,.string ByteArray.empty,.slice none 0 0],.bool false]) (by simp[results,Tryz.results88,go_sem,hc4];rfl) rfl ⟨(by repeat'(first|(with_reducible exact But.refl _ _)|(with_reducible assumption)|(with_reducible refine But.drewN ?_ _)|(with_reducible refine But.alloc ?_ _)|(with_reducible refine But.drew ?_)|(with_reducible refine But.setCell ?_ _ _)|(with_reducible refine But.setNew ?_ ?_ _)|go_size)),rfl⟩
theorem zu1(w:World)(r:Nat)(wv:Value)(l rest r2:List Tok)(ts:List ByteArray)(h:Rd w r wv l rest)(hl:l.length<=500)(h1:hdK rest=1)(h4:hdK rest.tail=4)(h5:zbr rest.tail.tail=some (ts,r2))(h6:hdK r2≠5) :
  Calls Tryz.prog 88 #[.pointer (some ⟨r,0,none⟩)] w fun e w'=>zge none w r wv l e w':=by
 have hlt:=h.lt
 have hne:w.heap.size≠r:=by omega
 obtain⟨t,HT⟩:∃ t,Hid ((rest.headD (0,ByteArray.empty)).2=t):=⟨_,rfl⟩
 have H1:Hid (hdK rest=1):=h1
 have HPK:Hid (∀ W,Rd W r wv l rest->Calls Tryz.prog 116 #[.pointer (some ⟨r,0,none⟩)] W fun e w'=>e=.returned (.agg #[.int .i64 1,.string t])/\Below W.heap.size W w'):=fun W hW=>by
  have:=zh2 W r wv l rest hW hl
  rw[h1,Hid.out HT] at this
  exact this
 have H4:Hid (hdK rest.tail=4):=h4
 have H5:Hid (zbr rest.tail.tail=some (ts,r2)):=h5
 have H6:Hid (hdK r2≠5):=h6
 clear h1 h4 h5 h6 HT
 go_enter Tryz.func88,Tryz.ntmps88
 go_wp2_with (first|(go_at_call 116;refine(Hid.out HPK _ (by exact h.below (by go_grown))).mono ?_;rintro e w1 ⟨rfl,hb1⟩;have hB1:=zae ((Below.refl _ _).alloc (Nat.le_refl _) _) hb1 (Nat.le_refl _);have hx1:=(Box.new w _ _).below hb1;have hz1:=hx1.lt;have hr1:=h.below hB1;have hlt1:r < w1.heap.size:=(by omega);have hne1:w1.heap.size≠r:=(by omega))|(go_at_call 117;refine(zt9 _ r wv l rest.tail.tail r2 ts hr3 hl H5).mono ?_;rintro e w4 ⟨va,rfl,hsin,hr4,hbut4⟩;obtain⟨ao,cp,rfl⟩:=hsin.shape;have hx4:=hx3.but hbut4 hne;have hy4:=hy3.but hbut4 hne1;clear hc3 hf3 hd3 he3;obtain⟨hc4,hf4⟩:=hx4.rules;obtain⟨hd4,he4⟩:=hy4.rules;have hz4:=hx4.lt;have hzy4:=hy4.lt;have hlt4:=hr4.lt;have hB4:=hB3.trans hbut4)|(go_at_call 89;have hq:=hr4;refine(zi3 _ r wv l r2 5 hq hl (by decide) H6).mono ?_;rintro e w5 ⟨rfl,hr5,hbut5⟩;have hx5:=hx4.but hbut5 hne;have hy5:=hy4.but hbut5 hne1;clear hc4 hf4 hd4 he4;obtain⟨hc5,hf5⟩:=hx5.rules;obtain⟨hd5,he5⟩:=hy5.rules;have hz5:=hx5.lt;have hzy5:=hy5.lt;have hlt5:=hr5.lt;have hB5:=hB4.trans hbut5;clear hq)|(go_at_call 89;have hq:=hr2;refine(zdt _ r wv l rest.tail 4 hq hl (by decide) H4).mono ?_;rintro e w3 ⟨rfl,hr3,hbut3⟩;have hx3:=hx2.but hbut3 hne;have hy3:=hy2.but hbut3 hne1;clear hc2 hf2 hd2 he2;obtain⟨hc3,hf3⟩:=hx3.rules;obtain⟨hd3,he3⟩:=hy3.rules;have hz3:=hx3.lt;have hzy3:=hy3.lt;have hlt3:=hr3.lt;have hB3:=hB2.trans hbut3;clear hq)|(go_at_call 89;have hq:=hr1;refine(zdt _ r wv l rest 1 (by exact hq.below (by go_grown)) hl (by decide) H1).mono ?_;rintro e w2 ⟨rfl,hr2,hbut2⟩;have hx2:=(hx1.below ((Below.refl _ _).alloc (Nat.le_refl _) _)).but hbut2 hne;have hy2:=(Box.new w1 _ _).but hbut2 hne1;obtain⟨hc2,hf2⟩:=hx2.rules;obtain⟨hd2,he2⟩:=hy2.rules;have hz2:=hx2.lt;have hzy2:=hy2.lt;have hlt2:=hr2.lt;have hB2:=(But.of hB1).trans (((But.refl r w1).alloc _).trans hbut2);clear hq))
 exact bodyPost_ret (v:=.tuple #[.agg #[.bool false,.string ByteArray.empty,.slice none 0 0],.bool false]) (by simp[results,Tryz.results88,go_sem,hc5];rfl) rfl ⟨(by repeat'(first|(with_reducible exact But.refl _ _)|(with_reducible assumption)|(with_reducible refine But.drewN ?_ _)|(with_reducible refine But.alloc ?_ _)|(with_reducible refine But.drew ?_)|(with_reducible refine But.setCell ?_ _ _)|(with_reducible refine But.setNew ?_ ?_ _)|go_size)),rfl⟩
theorem zx4(w:World)(r:Nat)(wv:Value)(l rest r2:List Tok)(ts:List ByteArray)(h:Rd w r wv l rest)(hl:l.length<=500)(h1:hdK rest=1)(h4:hdK rest.tail=4)(h5:zbr rest.tail.tail=some (ts,r2))(h6:hdK r2=5) :
  Calls Tryz.prog 88 #[.pointer (some ⟨r,0,none⟩)] w fun e w'=>zge (some (⟨false,(rest.headD (0,ByteArray.empty)).2,ts⟩,r2.tail)) w r wv l e w':=by
 have hlt:=h.lt
 have hne:w.heap.size≠r:=by omega
 generalize ht:(rest.headD (0,ByteArray.empty)).2=t
 have HT:Hid ((rest.headD (0,ByteArray.empty)).2=t):=ht
 clear ht
 have H1:Hid (hdK rest=1):=h1
 have HPK:Hid (∀ W,Rd W r wv l rest->Calls Tryz.prog 116 #[.pointer (some ⟨r,0,none⟩)] W fun e w'=>e=.returned (.agg #[.int .i64 1,.string t])/\Below W.heap.size W w'):=fun W hW=>by
  have:=zh2 W r wv l rest hW hl
  rw[h1,Hid.out HT] at this
  exact this
 have H4:Hid (hdK rest.tail=4):=h4
 have H5:Hid (zbr rest.tail.tail=some (ts,r2)):=h5
 have H6:Hid (hdK r2=5):=h6
 clear h1 h4 h5 h6 HT
 go_enter Tryz.func88,Tryz.ntmps88
 go_wp2_with (first|(go_at_call 116;refine(Hid.out HPK _ (by exact h.below (by go_grown))).mono ?_;rintro e w1 ⟨rfl,hb1⟩;have hB1:=zae ((Below.refl _ _).alloc (Nat.le_refl _) _) hb1 (Nat.le_refl _);have hx1:=(Box.new w _ _).below hb1;have hz1:=hx1.lt;have hr1:=h.below hB1;have hlt1:r < w1.heap.size:=(by omega);have hne1:w1.heap.size≠r:=(by omega))|(go_at_call 117;refine(zt9 _ r wv l rest.tail.tail r2 ts hr3 hl H5).mono ?_;rintro e w4 ⟨va,rfl,hsin,hr4,hbut4⟩;obtain⟨ao,cp,rfl⟩:=hsin.shape;have hx4:=hx3.but hbut4 hne;have hy4:=hy3.but hbut4 hne1;clear hc3 hf3 hd3 he3;obtain⟨hc4,hf4⟩:=hx4.rules;obtain⟨hd4,he4⟩:=hy4.rules;have hz4:=hx4.lt;have hzy4:=hy4.lt;have hlt4:=hr4.lt;have hB4:=hB3.trans hbut4)|(go_at_call 89;have hq:=hr4;refine(zdt _ r wv l r2 5 hq hl (by decide) H6).mono ?_;rintro e w5 ⟨rfl,hr5,hbut5⟩;have hx5:=hx4.but hbut5 hne;have hy5:=hy4.but hbut5 hne1;clear hc4 hf4 hd4 he4;obtain⟨hc5,hf5⟩:=hx5.rules;obtain⟨hd5,he5⟩:=hy5.rules;have hz5:=hx5.lt;have hzy5:=hy5.lt;have hlt5:=hr5.lt;have hB5:=hB4.trans hbut5;clear hq)|(go_at_call 89;have hq:=hr2;refine(zdt _ r wv l rest.tail 4 hq hl (by decide) H4).mono ?_;rintro e w3 ⟨rfl,hr3,hbut3⟩;have hx3:=hx2.but hbut3 hne;have hy3:=hy2.but hbut3 hne1;clear hc2 hf2 hd2 he2;obtain⟨hc3,hf3⟩:=hx3.rules;obtain⟨hd3,he3⟩:=hy3.rules;have hz3:=hx3.lt;have hzy3:=hy3.lt;have hlt3:=hr3.lt;have hB3:=hB2.trans hbut3;clear hq)|(go_at_call 89;have hq:=hr1;refine(zdt _ r wv l rest 1 (by exact hq.below (by go_grown)) hl (by decide) H1).mono ?_;rintro e w2 ⟨rfl,hr2,hbut2⟩;have hx2:=(hx1.below ((Below.refl _ _).alloc (Nat.le_refl _) _)).but hbut2 hne;have hy2:=(Box.new w1 _ _).but hbut2 hne1;obtain⟨hc2,hf2⟩:=hx2.rules;obtain⟨hd2,he2⟩:=hy2.rules;have hz2:=hx2.lt;have hzy2:=hy2.lt;have hlt2:=hr2.lt;have hB2:=(But.of hB1).trans (((But.refl r w1).alloc _).trans hbut2);clear hq))
 obtain⟨c4,f4,hcl⟩:=hr4.cell
 have hs5:=hsin.but hbut5 hcl (by decide)
 exact bodyPost_ret (v:=.tuple #[.agg #[.bool false,.string t,.slice ao ts.length cp],.bool true]) (by simp[results,Tryz.results88,go_sem,hc5]) rfl ⟨(by repeat'(first|(with_reducible exact But.refl _ _)|(with_reducible assumption)|(with_reducible refine But.drewN ?_ _)|(with_reducible refine But.alloc ?_ _)|(with_reducible refine But.drew ?_)|(with_reducible refine But.setCell ?_ _ _)|(with_reducible refine But.setNew ?_ ?_ _)|go_size)),_,rfl,(hs5.low hB3.size).but (r:=w.heap.size) (by repeat'(first|(with_reducible exact But.refl _ _)|(with_reducible assumption)|(with_reducible refine But.drewN ?_ _)|(with_reducible refine But.alloc ?_ _)|(with_reducible refine But.drew ?_)|(with_reducible refine But.setCell ?_ _ _)|(with_reducible refine But.setNew ?_ ?_ _)|go_size)) hx5 (by decide),h.keep hr5 (by go_grown)⟩
theorem zwt(w:World)(r:Nat)(wv:Value)(l rest:List Tok)(h:Rd w r wv l rest)(hl:l.length<=500) :
  Calls Tryz.prog 88 #[.pointer (some ⟨r,0,none⟩)] w fun e w'=>zge (zed rest) w r wv l e w':=by
 unfold zed
 split
 ·rename_i h1
  split
  ·rename_i h4
   split
   ·rename_i h5;exact z0i w r wv l rest h hl h1 h4 h5
   ·rename_i ts r2 h5
    split
    ·rename_i h6;exact zx4 w r wv l rest r2 ts h hl h1 h4 h5 h6
    ·rename_i h6;exact zu1 w r wv l rest r2 ts h hl h1 h4 h5 h6
  ·rename_i h4;exact z0h w r wv l rest h hl h1 h4
 ·rename_i h1;exact z6w w r wv l rest h hl (by simpa using h1)
theorem zr4(w:World)(r:Nat)(wv:Value)(l rest:List Tok)(h:Rd w r wv l rest)(hl:l.length<=500)(hp:zed rest=none) :
  Calls Tryz.prog 88 #[.pointer (some ⟨r,0,none⟩)] w fun e w'=>e=.returned (.tuple #[.agg #[.bool false,.string ByteArray.empty,.slice none 0 0],.bool false])/\But r w w':=by
 refine(zwt w r wv l rest h hl).mono ?_
 rintro e w' ⟨h1,h2⟩
 rw[hp] at h2
 exact⟨h2,h1⟩
theorem zhk(w:World)(r:Nat)(wv:Value)(l rest r2:List Tok)(a:zbz)(h:Rd w r wv l rest)(hl:l.length<=500)(hp:zed rest=some (a,r2)) :
  Calls Tryz.prog 88 #[.pointer (some ⟨r,0,none⟩)] w fun e w'=>∃ va,e=.returned (.tuple #[.agg #[.bool a.neg,.string a.pred,va],.bool true])/\SIn w.heap.size w' va a.args/\Rd w' r wv l r2/\But r w w':=by
 refine(zwt w r wv l rest h hl).mono ?_
 rintro e w' ⟨h1,h2⟩
 rw[hp] at h2
 obtain⟨v,a,b,c⟩:=h2
 exact⟨v,a,b,c,h1⟩
theorem zpt(b:Bool)(w:World)(r:Nat)(wv:Value)(l rest rest1:List Tok)(h:Rd w r wv l rest)(hl:l.length<=500)
  (htk:∀ W,Rd W r wv l rest->Calls Tryz.prog 89 #[.pointer (some ⟨r,0,none⟩),.int .i64 8] W fun e w'=>e=.returned (.bool b)/\Rd w' r wv l rest1/\But r W w') (ha:zed rest1=none) :
  Calls Tryz.prog 118 #[.pointer (some ⟨r,0,none⟩)] w fun e w'=>zge none w r wv l e w':=by
 have hlt:=h.lt
 have hne:w.heap.size≠r:=by omega
 have HTK:Hid (∀ W,Rd W r wv l rest->Calls Tryz.prog 89 #[.pointer (some ⟨r,0,none⟩),.int .i64 8] W fun e w'=>e=.returned (.bool b)/\Rd w' r wv l rest1/\But r W w'):=htk
 clear htk
 have HA:Hid (zed rest1=none):=ha
 clear ha
 go_enter Tryz.func118,Tryz.ntmps118
 go_wp2_with (first|(go_at_call 89;refine(Hid.out HTK _ (by exact h.below (by go_grown))).mono ?_;rintro e w1 ⟨rfl,hr1,hbut1⟩;have hx1:=(Box.new w _ _).but hbut1 hne;have hz1:=hx1.lt;have hlt1:=hr1.lt;have hB1:=((But.refl r w).alloc _).trans hbut1)|(go_at_call 88;refine(zr4 _ r wv l rest1 hr1 hl HA).mono ?_;rintro e w2 ⟨rfl,hbut2⟩;have hx2:=hx1.but hbut2 hne;obtain⟨hc2,hf2⟩:=hx2.rules;have hz2:=hx2.lt;have hB2:=hB1.trans hbut2))
 exact bodyPost_ret (v:=.tuple #[.agg #[.bool false,.string ByteArray.empty,.slice none 0 0],.bool false]) (by simp[results,Tryz.results118,go_sem,hc2,hz2];rfl) rfl ⟨(by repeat'(first|(with_reducible exact But.refl _ _)|(with_reducible assumption)|(with_reducible refine But.drewN ?_ _)|(with_reducible refine But.alloc ?_ _)|(with_reducible refine But.drew ?_)|(with_reducible refine But.setCell ?_ _ _)|(with_reducible refine But.setNew ?_ ?_ _)|go_size)),rfl⟩
theorem zny(b:Bool)(w:World)(r:Nat)(wv:Value)(l rest rest1 r2:List Tok)(a:zbz)(h:Rd w r wv l rest)(hl:l.length<=500)
  (htk:∀ W,Rd W r wv l rest->Calls Tryz.prog 89 #[.pointer (some ⟨r,0,none⟩),.int .i64 8] W fun e w'=>e=.returned (.bool b)/\Rd w' r wv l rest1/\But r W w') (ha:zed rest1=some (a,r2)) :
  Calls Tryz.prog 118 #[.pointer (some ⟨r,0,none⟩)] w fun e w'=>zge (some ({ a with neg:=b },r2)) w r wv l e w':=by
 have hlt:=h.lt
 have hne:w.heap.size≠r:=by omega
 have HTK:Hid (∀ W,Rd W r wv l rest->Calls Tryz.prog 89 #[.pointer (some ⟨r,0,none⟩),.int .i64 8] W fun e w'=>e=.returned (.bool b)/\Rd w' r wv l rest1/\But r W w'):=htk
 clear htk
 have HA:Hid (zed rest1=some (a,r2)):=ha
 clear ha
 go_enter Tryz.func118,Tryz.ntmps118
 go_wp2_with (first|(go_at_call 89;refine(Hid.out HTK _ (by exact h.below (by go_grown))).mono ?_;rintro e w1 ⟨rfl,hr1,hbut1⟩;have hx1:=(Box.new w _ _).but hbut1 hne;have hz1:=hx1.lt;have hlt1:=hr1.lt;have hB1:=((But.refl r w).alloc _).trans hbut1)|(go_at_call 88;refine(zhk _ r wv l rest1 r2 a hr1 hl HA).mono ?_;rintro e w2 ⟨va,rfl,hsin,hr2,hbut2⟩;obtain⟨ao,cp,rfl⟩:=hsin.shape;have hx2:=hx1.but hbut2 hne;obtain⟨hc2,hf2⟩:=hx2.rules;have hz2:=hx2.lt;have hB2:=hB1.trans hbut2))
 exact bodyPost_ret (v:=.tuple #[.agg #[.bool b,.string a.pred,.slice ao a.args.length cp],.bool true]) (by simp[results,Tryz.results118,go_sem,hc2,hz2]) rfl ⟨(by repeat'(first|(with_reducible exact But.refl _ _)|(with_reducible assumption)|(with_reducible refine But.drewN ?_ _)|(with_reducible refine But.alloc ?_ _)|(with_reducible refine But.drew ?_)|(with_reducible refine But.setCell ?_ _ _)|(with_reducible refine But.setNew ?_ ?_ _)|go_size)),_,rfl,(hsin.low hB1.size).but (r:=w.heap.size) (by repeat'(first|(with_reducible exact But.refl _ _)|(with_reducible assumption)|(with_reducible refine But.drewN ?_ _)|(with_reducible refine But.alloc ?_ _)|(with_reducible refine But.drew ?_)|(with_reducible refine But.setCell ?_ _ _)|(with_reducible refine But.setNew ?_ ?_ _)|go_size)) hx2 (by decide),h.keep hr2 (by go_grown)⟩
theorem z2h{rest r2:List Tok}{a:zbz}(h:zed rest=some (a,r2)):a.neg=false:=by
 unfold zed at h
 (repeat' split at h) <;> first|(cases h;done)|(simp at h;obtain⟨rfl,_⟩:=h;rfl)
theorem znx(w:World)(r:Nat)(wv:Value)(l rest:List Tok)(h:Rd w r wv l rest)(hl:l.length<=500) :
  Calls Tryz.prog 118 #[.pointer (some ⟨r,0,none⟩)] w fun e w'=>zge (zrt rest) w r wv l e w':=by
 unfold zrt
 split
 ·rename_i h8
  cases ha:zed rest.tail with
  |none=>exact zpt true w r wv l rest rest.tail h hl (fun W hW=>zdt W r wv l rest 8 hW hl (by decide) h8) ha
  |some z=>obtain⟨a,r2⟩:=z;exact zny true w r wv l rest rest.tail r2 a h hl (fun W hW=>zdt W r wv l rest 8 hW hl (by decide) h8) ha
 ·rename_i h8
  cases ha:zed rest with
  |none=>exact zpt false w r wv l rest rest h hl (fun W hW=>zi3 W r wv l rest 8 hW hl (by decide) h8) ha
  |some z =>
   obtain⟨a,r2⟩:=z
   have:=zny false w r wv l rest rest r2 a h hl (fun W hW=>zi3 W r wv l rest 8 hW hl (by decide) h8) ha
   rwa [show({ a with neg:=false }:zbz)=a by rw[← z2h ha]] at this
end Go.Proofs.YteampbddflhngabGreat
