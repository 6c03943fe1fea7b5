import Derived.Test.YteampbddflhngaaGreatB03

namespace Go.Proofs.YteampbddflhngaaGreat
set_option maxRecDepth 100000
set_option maxHeartbeats 1000000
open Go.RowKit
variable {lo:Nat}
def zdy(n:Nat)(r:List Tok):Option (zaa × List Tok) :=
 match zdq r with
 |none=>none
 |some (a,r2) =>
  if hdK r2=9 then
   match zeo n r2.tail with
   |none=>none
   |some (b,r3)=>if hdK r3=7 then some (⟨a,b⟩,r3.tail) else none
  else if hdK r2=7 then some (⟨a,[]⟩,r2.tail) else none
theorem ybv(w:World)(r:Nat)(wv:Value)(l rest:List Tok)(h:Rd w r wv l rest)(hl:l.length<=500)(n0:Nat)(hn0:rest.length < n0)(hp:zeo n0 rest=none) :
  Calls Tryz.prog 144 #[.pointer (some ⟨r,0,none⟩)] w fun e w'=>e=.returned (.tuple #[.slice none 0 0,.bool false])/\But r w w':=by
 refine(zz8 w r wv l rest h hl n0 hn0).mono ?_
 rintro e w' ⟨h1,h2⟩
 rw[hp] at h2
 exact⟨h2,h1⟩
theorem zz9(w:World)(r:Nat)(wv:Value)(l rest r2:List Tok)(b:List zbc)(h:Rd w r wv l rest)(hl:l.length<=500)(n0:Nat)(hn0:rest.length < n0)(hp:zeo n0 rest=some (b,r2)) :
  Calls Tryz.prog 144 #[.pointer (some ⟨r,0,none⟩)] w fun e w'=>∃ v,e=.returned (.tuple #[v,.bool true])/\LIn w.heap.size w' v b/\Rd w' r wv l r2/\But r w w':=by
 refine(zz8 w r wv l rest h hl n0 hn0).mono ?_
 rintro e w' ⟨h1,h2⟩
 rw[hp] at h2
 obtain⟨v,a,b,c⟩:=h2
 exact⟨v,a,b,c,h1⟩
def zf4(o:Option (zaa × List Tok))(w:World)(r:Nat)(wv:Value)(l:List Tok)(e:Ending)(w':World):Prop :=
 But r w w'/\match o with
  |none=>e=.returned (.tuple #[.agg #[.bool false,.string ByteArray.empty,.slice none 0 0,.slice none 0 0],.bool false])
  |some (c,r2)=>∃ va vb,e=.returned (.tuple #[.agg #[.bool c.head.neg,.string c.head.pred,va,vb],.bool true])/\SIn w.heap.size w' va c.head.args/\LIn w.heap.size w' vb c.body/\Rd w' r wv l r2
theorem z9g(w:World)(r:Nat)(wv:Value)(l rest:List Tok)(h:Rd w r wv l rest)(hl:l.length<=500)(ha:zdq rest=none) :
  Calls Tryz.prog 100 #[.pointer (some ⟨r,0,none⟩)] w fun e w'=>zf4 none w r wv l e w':=by
 have hlt:=h.lt
 have hne:w.heap.size≠r:=by omega
 have HA:Hid (zdq rest=none):=ha
 clear ha
 go_enter Tryz.func100,Tryz.ntmps100
 go_wp2_with (first|(go_at_call 142;refine(zwg _ r wv l rest (by exact h.below (by repeat'(first|with_reducible(first|exact zR _ _|assumption|refine zN ?_ _|refine zA ?_ ?_ _|refine zD ?_|refine zS ?_ ?_ _)|go_size))) hl HA).mono ?_;rintro e w1 ⟨rfl,hbut1⟩;have hx1:=(Box.new w _ _).but hbut1 hne;obtain⟨hc1,hf1⟩:=hx1.rules;have hz1:=hx1.lt;have hB1:=((But.refl r w).alloc _).trans hbut1))
 exact bodyPost_ret (v:=.tuple #[.agg #[.bool false,.string ByteArray.empty,.slice none 0 0,.slice none 0 0],.bool false]) (by simp[results,Tryz.results100,go_sem,hc1,hz1];rfl) rfl ⟨(by repeat'(first|(with_reducible exact But.refl _ _)|(with_reducible assumption)|(with_reducible refine But.drewN ?_ _)|(with_reducible refine But.alloc ?_ _)|(with_reducible refine But.drew ?_)|(with_reducible refine But.setCell ?_ _ _)|(with_reducible refine But.setNew ?_ ?_ _)|go_size)),rfl⟩
theorem yah(w:World)(r:Nat)(wv:Value)(l rest:List Tok)(h:Rd w r wv l rest)(hl:l.length<=500)(r1:List Tok)(a:zbc)(ha:zdq rest=some (a,r1))(h9:hdK r1≠9)(h7:hdK r1≠7) :
  Calls Tryz.prog 100 #[.pointer (some ⟨r,0,none⟩)] w fun e w'=>zf4 none w r wv l e w':=by
 have hlt:=h.lt
 have hne:w.heap.size≠r:=by omega
 have HA:Hid (zdq rest=some (a,r1)):=ha
 have H9:Hid (hdK r1≠9):=h9
 have H7:Hid (hdK r1≠7):=h7
 clear ha h9 h7
 go_enter Tryz.func100,Tryz.ntmps100
 go_wp2_with (first|(go_at_call 142;refine(zib _ r wv l rest r1 a (by exact h.below (by repeat'(first|with_reducible(first|exact zR _ _|assumption|refine zN ?_ _|refine zA ?_ ?_ _|refine zD ?_|refine zS ?_ ?_ _)|go_size))) hl HA).mono ?_;rintro e w1 ⟨va,rfl,hs1,hr1,hbut1⟩;obtain⟨ao,cp,rfl⟩:=hs1.shape;have hx1:=(Box.new w _ _).but hbut1 hne;have hz1:=hx1.lt;have hlt1:=hr1.lt;have hne1:w1.heap.size≠r:=(by omega);have hB1:=((But.refl r w).alloc _).trans hbut1)|(go_at_call 143;have hq:=hr2;refine(zje _ r wv l r1 7 hq hl (by decide) H7).mono ?_;rintro e w3 ⟨rfl,hr3,hbut3⟩;obtain⟨c7,f7,hcell7⟩:=hq.cell;have hs3:=hs2.but hbut3 hcell7 (by decide);have hx3:=hx2.but hbut3 hne;have hy3:=hy2.but hbut3 hne1;clear hc2 hf2 hd2 he2;obtain⟨hc3,hf3⟩:=hx3.rules;obtain⟨hd3,he3⟩:=hy3.rules;have hz3:=hx3.lt;have hzy3:=hy3.lt;have hlt3:=hr3.lt;have hB3:=hB2.trans hbut3;clear hq hcell7)|(go_at_call 143;have hq:=hr1;refine(zje _ r wv l r1 9 (by exact hq.below (by repeat'(first|with_reducible(first|exact zR _ _|assumption|refine zN ?_ _|refine zA ?_ ?_ _|refine zD ?_|refine zS ?_ ?_ _)|go_size))) hl (by decide) H9).mono ?_;rintro e w2 ⟨rfl,hr2,hbut2⟩;have hq1:=(But.refl r w1).alloc (Obj.cells #[.bool a.neg,.string a.pred,.slice ao a.args.length cp] 90);obtain⟨c1,f1,hcell1⟩:=hr1.cell;have hs2:=hs1.but (hq1.trans hbut2) hcell1 (by decide);have hx2:=(hx1.below ((Below.refl _ _).alloc (Nat.le_refl _) _)).but hbut2 hne;have hy2:=(Box.new w1 _ _).but hbut2 hne1;obtain⟨hc2,hf2⟩:=hx2.rules;obtain⟨hd2,he2⟩:=hy2.rules;have hz2:=hx2.lt;have hzy2:=hy2.lt;have hlt2:=hr2.lt;have hB2:=hB1.trans (hq1.trans hbut2);clear hq hq1 hcell1))
 exact bodyPost_ret (v:=.tuple #[.agg #[.bool false,.string ByteArray.empty,.slice none 0 0,.slice none 0 0],.bool false]) (by simp[results,Tryz.results100,go_sem,hc3];rfl) rfl ⟨(by repeat'(first|(with_reducible exact But.refl _ _)|(with_reducible assumption)|(with_reducible refine But.drewN ?_ _)|(with_reducible refine But.alloc ?_ _)|(with_reducible refine But.drew ?_)|(with_reducible refine But.setCell ?_ _ _)|(with_reducible refine But.setNew ?_ ?_ _)|go_size)),rfl⟩
theorem z8t(w:World)(r:Nat)(wv:Value)(l rest:List Tok)(h:Rd w r wv l rest)(hl:l.length<=500)(r1:List Tok)(a:zbc)(ha:zdq rest=some (a,r1))(h9:hdK r1≠9)(h7:hdK r1=7) :
  Calls Tryz.prog 100 #[.pointer (some ⟨r,0,none⟩)] w fun e w'=>zf4 (some (⟨a,[]⟩,r1.tail)) w r wv l e w':=by
 have hlt:=h.lt
 have hne:w.heap.size≠r:=by omega
 have HA:Hid (zdq rest=some (a,r1)):=ha
 have H9:Hid (hdK r1≠9):=h9
 have H7:Hid (hdK r1=7):=h7
 clear ha h9 h7
 go_enter Tryz.func100,Tryz.ntmps100
 go_wp2_with (first|(go_at_call 142;refine(zib _ r wv l rest r1 a (by exact h.below (by repeat'(first|with_reducible(first|exact zR _ _|assumption|refine zN ?_ _|refine zA ?_ ?_ _|refine zD ?_|refine zS ?_ ?_ _)|go_size))) hl HA).mono ?_;rintro e w1 ⟨va,rfl,hs1,hr1,hbut1⟩;obtain⟨ao,cp,rfl⟩:=hs1.shape;have hx1:=(Box.new w _ _).but hbut1 hne;have hz1:=hx1.lt;have hlt1:=hr1.lt;have hne1:w1.heap.size≠r:=(by omega);have hB1:=((But.refl r w).alloc _).trans hbut1)|(go_at_call 143;have hq:=hr2;refine(zdu _ r wv l r1 7 hq hl (by decide) H7).mono ?_;rintro e w3 ⟨rfl,hr3,hbut3⟩;obtain⟨c7,f7,hcell7⟩:=hq.cell;have hs3:=hs2.but hbut3 hcell7 (by decide);have hx3:=hx2.but hbut3 hne;have hy3:=hy2.but hbut3 hne1;clear hc2 hf2 hd2 he2;obtain⟨hc3,hf3⟩:=hx3.rules;obtain⟨hd3,he3⟩:=hy3.rules;have hz3:=hx3.lt;have hzy3:=hy3.lt;have hlt3:=hr3.lt;have hB3:=hB2.trans hbut3;clear hq hcell7)|(go_at_call 143;have hq:=hr1;refine(zje _ r wv l r1 9 (by exact hq.below (by repeat'(first|with_reducible(first|exact zR _ _|assumption|refine zN ?_ _|refine zA ?_ ?_ _|refine zD ?_|refine zS ?_ ?_ _)|go_size))) hl (by decide) H9).mono ?_;rintro e w2 ⟨rfl,hr2,hbut2⟩;have hq1:=(But.refl r w1).alloc (Obj.cells #[.bool a.neg,.string a.pred,.slice ao a.args.length cp] 90);obtain⟨c1,f1,hcell1⟩:=hr1.cell;have hs2:=hs1.but (hq1.trans hbut2) hcell1 (by decide);have hx2:=(hx1.below ((Below.refl _ _).alloc (Nat.le_refl _) _)).but hbut2 hne;have hy2:=(Box.new w1 _ _).but hbut2 hne1;obtain⟨hc2,hf2⟩:=hx2.rules;obtain⟨hd2,he2⟩:=hy2.rules;have hz2:=hx2.lt;have hzy2:=hy2.lt;have hlt2:=hr2.lt;have hB2:=hB1.trans (hq1.trans hbut2);clear hq hq1 hcell1))
 exact bodyPost_ret (v:=.tuple #[.agg #[.bool a.neg,.string a.pred,.slice ao a.args.length cp,.slice none 0 0],.bool true]) (by simp[results,Tryz.results100,go_sem,hc3]) rfl ⟨(by repeat'(first|(with_reducible exact But.refl _ _)|(with_reducible assumption)|(with_reducible refine But.drewN ?_ _)|(with_reducible refine But.alloc ?_ _)|(with_reducible refine But.drew ?_)|(with_reducible refine But.setCell ?_ _ _)|(with_reducible refine But.setNew ?_ ?_ _)|go_size)),_,_,rfl,(hs3.low (by first|(simp;done)|omega)).but (r:=w.heap.size) (by repeat'(first|(with_reducible exact But.refl _ _)|(with_reducible assumption)|(with_reducible refine But.drewN ?_ _)|(with_reducible refine But.alloc ?_ _)|(with_reducible refine But.drew ?_)|(with_reducible refine But.setCell ?_ _ _)|(with_reducible refine But.setNew ?_ ?_ _)|go_size)) hx3 (by decide),LIn.nil _,h.keep hr3 (by repeat'(first|with_reducible(first|exact zR _ _|assumption|refine zN ?_ _|refine zA ?_ ?_ _|refine zD ?_|refine zS ?_ ?_ _)|go_size))⟩
theorem z8q(w:World)(r:Nat)(wv:Value)(l rest:List Tok)(h:Rd w r wv l rest)(hl:l.length<=500)(r1:List Tok)(a:zbc)(n0:Nat)(ha:zdq rest=some (a,r1))(h9:hdK r1=9)(hn:r1.tail.length < n0)(hb:zeo n0 r1.tail=none) :
  Calls Tryz.prog 100 #[.pointer (some ⟨r,0,none⟩)] w fun e w'=>zf4 none w r wv l e w':=by
 have hlt:=h.lt
 have hne:w.heap.size≠r:=by omega
 have HA:Hid (zdq rest=some (a,r1)):=ha
 have H9:Hid (hdK r1=9):=h9
 have HN:Hid (r1.tail.length < n0):=hn
 have HB:Hid (zeo n0 r1.tail=none):=hb
 clear ha h9 hn hb
 go_enter Tryz.func100,Tryz.ntmps100
 go_wp2_with (first|(go_at_call 142;refine(zib _ r wv l rest r1 a (by exact h.below (by repeat'(first|with_reducible(first|exact zR _ _|assumption|refine zN ?_ _|refine zA ?_ ?_ _|refine zD ?_|refine zS ?_ ?_ _)|go_size))) hl HA).mono ?_;rintro e w1 ⟨va,rfl,hs1,hr1,hbut1⟩;obtain⟨ao,cp,rfl⟩:=hs1.shape;have hx1:=(Box.new w _ _).but hbut1 hne;have hz1:=hx1.lt;have hlt1:=hr1.lt;have hne1:w1.heap.size≠r:=(by omega);have hB1:=((But.refl r w).alloc _).trans hbut1)|(go_at_call 144;refine(ybv _ r wv l r1.tail hr2 hl n0 HN HB).mono ?_;rintro e w3 ⟨rfl,hbut3⟩;have hx3:=hx2.but hbut3 hne;have hy3:=hy2.but hbut3 hne1;clear hc2 hf2 hd2 he2;obtain⟨hc3,hf3⟩:=hx3.rules;obtain⟨hd3,he3⟩:=hy3.rules;have hz3:=hx3.lt;have hzy3:=hy3.lt;have hB3:=hB2.trans hbut3)|(go_at_call 143;have hq:=hr1;refine(zdu _ r wv l r1 9 (by exact hq.below (by repeat'(first|with_reducible(first|exact zR _ _|assumption|refine zN ?_ _|refine zA ?_ ?_ _|refine zD ?_|refine zS ?_ ?_ _)|go_size))) hl (by decide) H9).mono ?_;rintro e w2 ⟨rfl,hr2,hbut2⟩;have hq1:=(But.refl r w1).alloc (Obj.cells #[.bool a.neg,.string a.pred,.slice ao a.args.length cp] 90);obtain⟨c1,f1,hcell1⟩:=hr1.cell;have hs2:=hs1.but (hq1.trans hbut2) hcell1 (by decide);have hx2:=(hx1.below ((Below.refl _ _).alloc (Nat.le_refl _) _)).but hbut2 hne;have hy2:=(Box.new w1 _ _).but hbut2 hne1;obtain⟨hc2,hf2⟩:=hx2.rules;obtain⟨hd2,he2⟩:=hy2.rules;have hz2:=hx2.lt;have hzy2:=hy2.lt;have hlt2:=hr2.lt;have hB2:=hB1.trans (hq1.trans hbut2);clear hq hq1 hcell1))
 exact bodyPost_ret (v:=.tuple #[.agg #[.bool false,.string ByteArray.empty,.slice none 0 0,.slice none 0 0],.bool false]) (by simp[results,Tryz.results100,go_sem,hc3];rfl) rfl ⟨(by repeat'(first|(with_reducible exact But.refl _ _)|(with_reducible assumption)|(with_reducible refine But.drewN ?_ _)|(with_reducible refine But.alloc ?_ _)|(with_reducible refine But.drew ?_)|(with_reducible refine But.setCell ?_ _ _)|(with_reducible refine But.setNew ?_ ?_ _)|go_size)),rfl⟩
theorem yam(w:World)(r:Nat)(wv:Value)(l rest:List Tok)(h:Rd w r wv l rest)(hl:l.length<=500)(r1 r2:List Tok)(a:zbc)(b:List zbc)(n0:Nat)(ha:zdq rest=some (a,r1))(h9:hdK r1=9)(hn:r1.tail.length < n0)(hb:zeo n0 r1.tail=some (b,r2))(h7:hdK r2≠7) :
  Calls Tryz.prog 100 #[.pointer (some ⟨r,0,none⟩)] w fun e w'=>zf4 none w r wv l e w':=by
 have hlt:=h.lt
 have hne:w.heap.size≠r:=by omega
 have HA:Hid (zdq rest=some (a,r1)):=ha
 have H9:Hid (hdK r1=9):=h9
 have HN:Hid (r1.tail.length < n0):=hn
 have HB:Hid (zeo n0 r1.tail=some (b,r2)):=hb
 have H7:Hid (hdK r2≠7):=h7
 clear ha h9 hn hb h7
 go_enter Tryz.func100,Tryz.ntmps100
 go_wp2_with (first|(go_at_call 142;refine(zib _ r wv l rest r1 a (by exact h.below (by repeat'(first|with_reducible(first|exact zR _ _|assumption|refine zN ?_ _|refine zA ?_ ?_ _|refine zD ?_|refine zS ?_ ?_ _)|go_size))) hl HA).mono ?_;rintro e w1 ⟨va,rfl,hs1,hr1,hbut1⟩;obtain⟨ao,cp,rfl⟩:=hs1.shape;have hx1:=(Box.new w _ _).but hbut1 hne;have hz1:=hx1.lt;have hlt1:=hr1.lt;have hne1:w1.heap.size≠r:=(by omega);have hB1:=((But.refl r w).alloc _).trans hbut1)|(go_at_call 144;refine(zz9 _ r wv l r1.tail r2 b hr2 hl n0 HN HB).mono ?_;rintro e w3 ⟨vb,rfl,hl3,hr3,hbut3⟩;obtain⟨aob,cpb,rfl⟩:=hl3.shape;obtain⟨c3,f3,hcell3⟩:=hr2.cell;have hs3:=hs2.but hbut3 hcell3 (by decide);have hx3:=hx2.but hbut3 hne;have hy3:=hy2.but hbut3 hne1;clear hc2 hf2 hd2 he2;obtain⟨hc3,hf3⟩:=hx3.rules;obtain⟨hd3,he3⟩:=hy3.rules;have hz3:=hx3.lt;have hzy3:=hy3.lt;have hlt3:=hr3.lt;have hB3:=hB2.trans hbut3;clear hcell3)|(go_at_call 143;have hq:=hr3;refine(zje _ r wv l r2 7 hq hl (by decide) H7).mono ?_;rintro e w4 ⟨rfl,hr4,hbut4⟩;obtain⟨c7,f7,hcell7⟩:=hq.cell;have hs4:=hs3.but hbut4 hcell7 (by decide);have hx4:=hx3.but hbut4 hne;have hy4:=hy3.but hbut4 hne1;clear hc3 hf3 hd3 he3;obtain⟨hc4,hf4⟩:=hx4.rules;obtain⟨hd4,he4⟩:=hy4.rules;have hz4:=hx4.lt;have hzy4:=hy4.lt;have hlt4:=hr4.lt;have hB4:=hB3.trans hbut4;clear hq hcell7)|(go_at_call 143;have hq:=hr1;refine(zdu _ r wv l r1 9 (by exact hq.below (by repeat'(first|with_reducible(first|exact zR _ _|assumption|refine zN ?_ _|refine zA ?_ ?_ _|refine zD ?_|refine zS ?_ ?_ _)|go_size))) hl (by decide) H9).mono ?_;rintro e w2 ⟨rfl,hr2,hbut2⟩;have hq1:=(But.refl r w1).alloc (Obj.cells #[.bool a.neg,.string a.pred,.slice ao a.args.length cp] 90);obtain⟨c1,f1,hcell1⟩:=hr1.cell;have hs2:=hs1.but (hq1.trans hbut2) hcell1 (by decide);have hx2:=(hx1.below ((Below.refl _ _).alloc (Nat.le_refl _) _)).but hbut2 hne;have hy2:=(Box.new w1 _ _).but hbut2 hne1;obtain⟨hc2,hf2⟩:=hx2.rules;obtain⟨hd2,he2⟩:=hy2.rules;have hz2:=hx2.lt;have hzy2:=hy2.lt;have hlt2:=hr2.lt;have hB2:=hB1.trans (hq1.trans hbut2);clear hq hq1 hcell1))
 exact bodyPost_ret (v:=.tuple #[.agg #[.bool false,.string ByteArray.empty,.slice none 0 0,.slice none 0 0],.bool false]) (by simp[results,Tryz.results100,go_sem,hc4];rfl) rfl ⟨(by repeat'(first|(with_reducible exact But.refl _ _)|(with_reducible assumption)|(with_reducible refine But.drewN ?_ _)|(with_reducible refine But.alloc ?_ _)|(with_reducible refine But.drew ?_)|(with_reducible refine But.setCell ?_ _ _)|(with_reducible refine But.setNew ?_ ?_ _)|go_size)),rfl⟩
theorem z9t(w:World)(r:Nat)(wv:Value)(l rest:List Tok)(h:Rd w r wv l rest)(hl:l.length<=500)(r1 r2:List Tok)(a:zbc)(b:List zbc)(n0:Nat)(ha:zdq rest=some (a,r1))(h9:hdK r1=9)(hn:r1.tail.length < n0)(hb:zeo n0 r1.tail=some (b,r2))(h7:hdK r2=7) :
  Calls Tryz.prog 100 #[.pointer (some ⟨r,0,none⟩)] w fun e w'=>zf4 (some (⟨a,b⟩,r2.tail)) w r wv l e w':=by
 have hlt:=h.lt
 have hne:w.heap.size≠r:=by omega
 have HA:Hid (zdq rest=some (a,r1)):=ha
 have H9:Hid (hdK r1=9):=h9
 have HN:Hid (r1.tail.length < n0):=hn
 have HB:Hid (zeo n0 r1.tail=some (b,r2)):=hb
 have H7:Hid (hdK r2=7):=h7
 clear ha h9 hn hb h7
 go_enter Tryz.func100,Tryz.ntmps100
 go_wp2_with (first|(go_at_call 142;refine(zib _ r wv l rest r1 a (by exact h.below (by repeat'(first|with_reducible(first|exact zR _ _|assumption|refine zN ?_ _|refine zA ?_ ?_ _|refine zD ?_|refine zS ?_ ?_ _)|go_size))) hl HA).mono ?_;rintro e w1 ⟨va,rfl,hs1,hr1,hbut1⟩;obtain⟨ao,cp,rfl⟩:=hs1.shape;have hx1:=(Box.new w _ _).but hbut1 hne;have hz1:=hx1.lt;have hlt1:=hr1.lt;have hne1:w1.heap.size≠r:=(by omega);have hB1:=((But.refl r w).alloc _).trans hbut1)|(go_at_call 144;refine(zz9 _ r wv l r1.tail r2 b hr2 hl n0 HN HB).mono ?_;rintro e w3 ⟨vb,rfl,hl3,hr3,hbut3⟩;obtain⟨aob,cpb,rfl⟩:=hl3.shape;obtain⟨c3,f3,hcell3⟩:=hr2.cell;have hs3:=hs2.but hbut3 hcell3 (by decide);have hx3:=hx2.but hbut3 hne;have hy3:=hy2.but hbut3 hne1;clear hc2 hf2 hd2 he2;obtain⟨hc3,hf3⟩:=hx3.rules;obtain⟨hd3,he3⟩:=hy3.rules;have hz3:=hx3.lt;have hzy3:=hy3.lt;have hlt3:=hr3.lt;have hB3:=hB2.trans hbut3;clear hcell3)|(go_at_call 143;have hq:=hr3;refine(zdu _ r wv l r2 7 hq hl (by decide) H7).mono ?_;rintro e w4 ⟨rfl,hr4,hbut4⟩;obtain⟨c7,f7,hcell7⟩:=hq.cell;have hs4:=hs3.but hbut4 hcell7 (by decide);have hl4:=hl3.but hbut4 hcell7 (by decide) (by decide);have hx4:=hx3.but hbut4 hne;have hy4:=hy3.but hbut4 hne1;clear hc3 hf3 hd3 he3;obtain⟨hc4,hf4⟩:=hx4.rules;obtain⟨hd4,he4⟩:=hy4.rules;have hz4:=hx4.lt;have hzy4:=hy4.lt;have hlt4:=hr4.lt;have hB4:=hB3.trans hbut4;clear hq hcell7)|(go_at_call 143;have hq:=hr1;refine(zdu _ r wv l r1 9 (by exact hq.below (by repeat'(first|with_reducible(first|exact zR _ _|assumption|refine zN ?_ _|refine zA ?_ ?_ _|refine zD ?_|refine zS ?_ ?_ _)|go_size))) hl (by decide) H9).mono ?_;rintro e w2 ⟨rfl,hr2,hbut2⟩;have hq1:=(But.refl r w1).alloc (Obj.cells #[.bool a.neg,.string a.pred,.slice ao a.args.length cp] 90);obtain⟨c1,f1,hcell1⟩:=hr1.cell;have hs2:=hs1.but (hq1.trans hbut2) hcell1 (by decide);have hx2:=(hx1.below ((Below.refl _ _).alloc (Nat.le_refl _) _)).but hbut2 hne;have hy2:=(Box.new w1 _ _).but hbut2 hne1;obtain⟨hc2,hf2⟩:=hx2.rules;obtain⟨hd2,he2⟩:=hy2.rules;have hz2:=hx2.lt;have hzy2:=hy2.lt;have hlt2:=hr2.lt;have hB2:=hB1.trans (hq1.trans hbut2);clear hq hq1 hcell1))
 exact bodyPost_ret (v:=.tuple #[.agg #[.bool a.neg,.string a.pred,.slice ao a.args.length cp,.slice aob b.length cpb],.bool true]) (by simp[results,Tryz.results100,go_sem,hc4]) rfl ⟨(by repeat'(first|(with_reducible exact But.refl _ _)|(with_reducible assumption)|(with_reducible refine But.drewN ?_ _)|(with_reducible refine But.alloc ?_ _)|(with_reducible refine But.drew ?_)|(with_reducible refine But.setCell ?_ _ _)|(with_reducible refine But.setNew ?_ ?_ _)|go_size)),_,_,rfl,(hs4.low (by first|(simp;done)|omega)).but (r:=w.heap.size) (by repeat'(first|(with_reducible exact But.refl _ _)|(with_reducible assumption)|(with_reducible refine But.drewN ?_ _)|(with_reducible refine But.alloc ?_ _)|(with_reducible refine But.drew ?_)|(with_reducible refine But.setCell ?_ _ _)|(with_reducible refine But.setNew ?_ ?_ _)|go_size)) hx4 (by decide),(hl4.low (by first|(simp;done)|omega)).but (r:=w.heap.size) (by repeat'(first|(with_reducible exact But.refl _ _)|(with_reducible assumption)|(with_reducible refine But.drewN ?_ _)|(with_reducible refine But.alloc ?_ _)|(with_reducible refine But.drew ?_)|(with_reducible refine But.setCell ?_ _ _)|(with_reducible refine But.setNew ?_ ?_ _)|go_size)) hx4 (by decide) (by decide),h.keep hr4 (by repeat'(first|with_reducible(first|exact zR _ _|assumption|refine zN ?_ _|refine zA ?_ ?_ _|refine zD ?_|refine zS ?_ ?_ _)|go_size))⟩
theorem zre(w:World)(r:Nat)(wv:Value)(l rest:List Tok)(h:Rd w r wv l rest)(hl:l.length<=500)(n0:Nat)(hn0:rest.length<=n0) :
  Calls Tryz.prog 100 #[.pointer (some ⟨r,0,none⟩)] w fun e w'=>zf4 (zdy n0 rest) w r wv l e w':=by
 unfold zdy
 split
 ·rename_i ha;exact z9g w r wv l rest h hl ha
 ·rename_i a r1 ha
  have hlen:=zlf ha
  split
  ·rename_i h9
   have hn:r1.tail.length < n0:=by simp;omega
   split
   ·rename_i hb;exact z8q w r wv l rest h hl r1 a n0 ha h9 hn hb
   ·rename_i b r2 hb
    split
    ·rename_i h7;exact z9t w r wv l rest h hl r1 r2 a b n0 ha h9 hn hb h7
    ·rename_i h7;exact yam w r wv l rest h hl r1 r2 a b n0 ha h9 hn hb h7
  ·rename_i h9
   split
   ·rename_i h7;exact z8t w r wv l rest h hl r1 a ha h9 h7
   ·rename_i h7;exact yah w r wv l rest h hl r1 a ha h9 h7
end Go.Proofs.YteampbddflhngaaGreat

namespace Go.Proofs.YteampbddflhngaaGreat
set_option maxRecDepth 100000
set_option maxHeartbeats 1000000
open Go.RowKit
variable {lo:Nat}
def zdt(lo:Nat)(w:World):List zaa->List Value->Prop
 |[],xs=>xs=[]
 |c::cs,xs=>∃ va vb r,xs=.bool c.head.neg::.string c.head.pred::va::vb::r/\SIn lo w va c.head.args/\LIn lo w vb c.body/\zdt lo w cs r
theorem zdt.snoc{w:World}{c:zaa}{va vb:Value}(hs:SIn lo w va c.head.args)(hb:LIn lo w vb c.body):∀ {ls:List zaa} {xs:List Value},zdt lo w ls xs->zdt lo w (ls++[c]) (xs++[.bool c.head.neg,.string c.head.pred,va,vb])
 |[],_,h=>by simp only[zdt] at h;subst h;exact⟨va,vb,[],rfl,hs,hb,rfl⟩
 |_::ls,_,h=>by obtain⟨v,v2,r,rfl,h1,h2,h3⟩:=h;exact⟨v,v2,r++[.bool c.head.neg,.string c.head.pred,va,vb],rfl,h1,h2,zdt.snoc hs hb h3⟩
theorem zdt.mono{w w':World}(hm:∀ va l,SIn lo w va l->SIn lo w' va l)(hm2:∀ va l,LIn lo w va l->LIn lo w' va l):∀ {ls:List zaa} {xs:List Value},zdt lo w ls xs->zdt lo w' ls xs
 |[],_,h=>h
 |_::ls,_,h=>by obtain⟨v,v2,r,rfl,h1,h2,h3⟩:=h;exact⟨v,v2,r,rfl,hm _ _ h1,hm2 _ _ h2,zdt.mono hm hm2 h3⟩
theorem zdt.at{w:World}:∀ {ls:List zaa} {xs:List Value} (i:Nat) (c:zaa),zdt lo w ls xs->ls[i]?=some c →
  ∃ va vb,xs[i * 4]?=some (.bool c.head.neg)/\xs[i * 4+1]?=some (.string c.head.pred)/\xs[i * 4+2]?=some va/\xs[i * 4+3]?=some vb/\SIn lo w va c.head.args/\LIn lo w vb c.body
 |[],_,i,a,_,hi=>by simp at hi
 |_::ls,_,0,a,h,hi=>by obtain⟨v,v2,r,rfl,h1,h2,h3⟩:=h;simp at hi;subst hi;exact⟨v,v2,rfl,rfl,rfl,rfl,h1,h2⟩
 |_::ls,_,i+1,a,h,hi=>by
  obtain⟨v,v2,r,rfl,h1,h2,h3⟩:=h
  obtain⟨va,vb,a1,a2,a3,a4,a5⟩:=zdt.at i a h3 (by simpa using hi)
  refine⟨va,vb,?_,?_,?_,?_,a5⟩
  ·rw[show(i+1) * 4=i * 4+1+1+1+1 from by omega];simpa using a1
  ·rw[show(i+1) * 4+1=i * 4+1+1+1+1+1 from by omega];simpa using a2
  ·rw[show(i+1) * 4+2=i * 4+2+1+1+1+1 from by omega];simpa using a3
  ·rw[show(i+1) * 4+3=i * 4+3+1+1+1+1 from by omega];simpa using a4
def CIn(lo:Nat)(T:TypeId)(w:World)(v:Value)(ls:List zaa):Prop:=∃ xs,w.ownsRow lo T 4 v ls.length xs/\zdt lo w ls xs
theorem zdt.low{a b:Nat}{w:World}(hab:a<=b):∀ {ls:List zaa} {xs:List Value},zdt b w ls xs->zdt a w ls xs
 |[],_,h=>h
 |_::ls,_,h=>by obtain⟨v,v2,r,rfl,h1,h2,h3⟩:=h;exact⟨v,v2,r,rfl,h1.low hab,h2.low hab,zdt.low hab h3⟩
theorem CIn.low{a b:Nat}{T:TypeId}{w:World}{v:Value}{l:List zaa}(h:CIn b T w v l)(hab:a<=b):CIn a T w v l:=by obtain⟨xs,h,hc⟩:=h;exact⟨xs,zbf h hab,hc.low hab⟩
theorem CIn.shape{T:TypeId}{w:World}{v:Value}{l:List zaa}(h:CIn lo T w v l):∃ ao cap,v=.slice ao l.length cap:=by obtain⟨xs,h,_⟩:=h;exact zac h
theorem CIn.below{T:TypeId}{w w':World}{v:Value}{l:List zaa}(h:CIn lo T w v l)(hb:Below w.heap.size w w'):CIn lo T w' v l:=by
 obtain⟨xs,h,hc⟩:=h;exact⟨xs,zab h hb,hc.mono (fun _ _ k=>k.below hb) (fun _ _ k=>k.below hb)⟩
theorem LIn.push{wO w2:World}{b:Nat}{e:TypeId}{s:Nat}{v v2:Value}{n:Nat}{xs:List Value}{ls:List zbc}(hv:wO.ownsRow b e s v n xs)(hne:e≠90)(hne2:e≠9)(h:LIn lo wO v2 ls)
  (hk:∀ k,k < wO.heap.size->some k≠v.ownBlock->w2.heap[k]?=wO.heap[k]?):LIn lo w2 v2 ls:=by
 obtain⟨xs2,h1,h2⟩:=h
 exact⟨xs2,zjy hv hne h1 hk,h2.mono fun _ _ k=>zjy hv hne2 k hk⟩
def zdp(n0:Nat):Nat->List Tok->Option (List zaa)
 |_,[]=>some []
 |0,_::_=>none
 |m+1,x::r=>match zdy n0 (x::r) with
  |none=>none
  |some (c,r2)=>(zdp n0 m r2).map (c::·)
theorem zzf{n0 m:Nat}{r:List Tok}(hr:r≠[])(h:zdy n0 r=none):zdp n0 (m+1) r=none:=by
 cases r with
 |nil=>exact absurd rfl hr
 |cons x r=>simp[zdp,h]
theorem zoy{n0 m:Nat}{r r2:List Tok}{c:zaa}(hr:r≠[])(h:zdy n0 r=some (c,r2)):zdp n0 (m+1) r=(zdp n0 m r2).map (c::·):=by
 cases r with
 |nil=>exact absurd rfl hr
 |cons x r=>simp[zdp,h]
theorem z3v{n:Nat}:∀ {r r2:List Tok} {b:List zbc},zeo n r=some (b,r2)->r2.length < r.length:=by
 induction n with
 |zero=>intro r r2 b h;simp[zeo] at h
 |succ n ih =>
  intro r r2 b h
  cases hl:zqj r with
  |none=>rw[zt0 hl] at h;cases h
  |some z =>
   obtain⟨a,r3⟩:=z
   have:=zzl hl
   by_cases h6:hdK r3=6
   ·rw[zj2 hl h6] at h
    cases hq:zeo n r3.tail with
    |none=>rw[hq] at h;simp at h
    |some z =>
     rw[hq] at h;simp at h
     have:=ih hq
     obtain⟨_,rfl⟩:=h;simp at this;omega
   ·rw[zjw hl h6] at h;simp at h;obtain⟨_,rfl⟩:=h;omega
theorem zyx{n:Nat}{r r2:List Tok}{c:zaa}(h:zdy n r=some (c,r2)):r2.length < r.length:=by
 unfold zdy at h
 split at h
 ·cases h
 ·rename_i a r1 ha
  have:=zlf ha
  split at h
  ·split at h
   ·cases h
   ·rename_i b r3 hb
    have:=z3v hb
    split at h <;> simp at h
    obtain⟨_,rfl⟩:=h;simp at this ⊢;omega
  ·split at h <;> simp at h
   obtain⟨_,rfl⟩:=h;simp;omega
theorem z4g(w:World)(r:Nat)(wv:Value)(l rest:List Tok)(h:Rd w r wv l rest)(hl:l.length<=500)(n0:Nat)(hn0:rest.length<=n0)(hp:zdy n0 rest=none) :
  Calls Tryz.prog 100 #[.pointer (some ⟨r,0,none⟩)] w fun e w'=>e=.returned (.tuple #[.agg #[.bool false,.string ByteArray.empty,.slice none 0 0,.slice none 0 0],.bool false])/\But r w w':=by
 refine(zre w r wv l rest h hl n0 hn0).mono ?_
 rintro e w' ⟨h1,h2⟩
 rw[hp] at h2
 exact⟨h2,h1⟩
theorem z0n(w:World)(r:Nat)(wv:Value)(l rest r2:List Tok)(c:zaa)(h:Rd w r wv l rest)(hl:l.length<=500)(n0:Nat)(hn0:rest.length<=n0)(hp:zdy n0 rest=some (c,r2)) :
  Calls Tryz.prog 100 #[.pointer (some ⟨r,0,none⟩)] w fun e w'=>∃ va vb,e=.returned (.tuple #[.agg #[.bool c.head.neg,.string c.head.pred,va,vb],.bool true])/\SIn w.heap.size w' va c.head.args/\LIn w.heap.size w' vb c.body/\Rd w' r wv l r2/\But r w w':=by
 refine(zre w r wv l rest h hl n0 hn0).mono ?_
 rintro e w' ⟨h1,h2⟩
 rw[hp] at h2
 obtain⟨v,v2,a,b,c,d⟩:=h2
 exact⟨v,v2,a,b,c,d,h1⟩
theorem Tryz.infoClause:(Tryz.prog.info? 171).map (fun i=>(i.zero,i.size,i.bytes))=some (some (.agg #[.bool false,.string ByteArray.empty,.slice none 0 0,.slice none 0 0]),4,72):=by kernel_rfl
def zpc(o:Option (List zaa))(w:World)(e:Ending)(w':World):Prop :=
 Below w.heap.size w w'/\match o with
  |none=>e=.returned (.tuple #[.slice none 0 0,.bool false])
  |some cs=>∃ v,e=.returned (.tuple #[v,.bool true])/\CIn w.heap.size 171 w' v cs
theorem zu6{o:Option (List zaa)}{w w':World}(h:Hid (o=none))(hb:Below w.heap.size w w'):zpc o w (.returned (.tuple #[.slice none 0 0,.bool false])) w':=by
 have h':o=none:=h
 subst h';exact⟨hb,rfl⟩
theorem zsy{o:Option (List zaa)}{w w':World}{v:Value}{cs:List zaa}(h:Hid (o=some cs))(hb:Below w.heap.size w w')(hs:CIn w.heap.size 171 w' v cs):zpc o w (.returned (.tuple #[v,.bool true])) w':=by
 have h':o=some cs:=h
 subst h';exact⟨hb,v,rfl,hs⟩
theorem parse_any(w:World)(wv:Value)(l:List Tok)(base:Nat)(hw:w.ownsRow base 182 2 wv l.length (zgr l))(hl:l.length<=500) :
  Calls Tryz.prog 60 #[wv] w fun e w'=>zpc (zdp l.length l.length l) w e w':=by
 obtain⟨i0,hi,hz0,hzs,hzb⟩:=info_parts Tryz.infoClause
 obtain⟨ao,cap,rfl⟩:=zac hw
 have h0:Rd (w.alloc (.cells #[.slice ao l.length cap,.int .i64 0] 185)) w.heap.size (.slice ao l.length cap) l l :=
  ⟨⟨0,Nat.zero_le _,rfl,Box.new _ _ _⟩,base,zab hw ((Below.refl _ _).alloc (Nat.le_refl _) _)⟩
 clear hw
 go_enter Tryz.func60,Tryz.ntmps60
 go_wp2
 go_loopg [5] (l.length) (fun n v wr=>∃(acc:List zaa) (rst:List Tok) (m:Nat) (xs:List Value),rst.length<=n/\rst.length<=m/\rst.length+acc.length<=l.length ∧
   wr.ownsRow (w.heap.size+1) 171 4 v acc.length xs/\zdt w.heap.size wr acc xs/\Rd wr w.heap.size (.slice ao l.length cap) l rst/\But w.heap.size (w.alloc (.cells #[.slice ao l.length cap,.int .i64 0] 185)) wr ∧
   Hid (zdp l.length l.length l=(zdp l.length m rst).map (acc++·)))
 case atStart=>exact⟨[],l,l.length,[],Nat.le_refl _,Nat.le_refl _,by simp,World.ownsRow_nil _ _ _ _,rfl,h0,But.refl _ _,(by simp[Hid])⟩
 case round =>
  obtain⟨acc,rst,m,xs,hn,hm,hra,hown,hlc,hrd,hbut,H1⟩:=hrel
  have hwr:w.heap.size<=wr.heap.size:=by have:=hbut.size;simp at this;omega
  obtain⟨c0,f0,hcell⟩:=hrd.cell
  have HCELL:Hid (wr.heap[w.heap.size]?=some (.cells c0 185 f0)):=hcell
  obtain⟨p,ao',cap',hp,hr,hwv,hblk,hc0,hc1,hfz,hx⟩:=hrd.view
  clear hwv hx hblk
  cases rst with
  |nil =>
   have hpl:p=l.length:=by
    have:=congrArg List.length hr;simp at this;omega
   have H3:Hid (zdp l.length l.length l=some acc):=by rw[Hid.out H1];cases m <;> simp[zdp,Hid]
   have hbel:Below w.heap.size w wr:=((Below.refl _ _).alloc (Nat.le_refl _) _).trans (hbut.below (Nat.le_refl _) (by simp))
   subst hpl
   clear hr H1 hcell
   go_wp2
   go_ret2
   exact zsy H3 hbel ⟨_,zbf hown (by omega),hlc⟩
  |cons x r0 =>
   have hpl:p < l.length:=by
    rcases Nat.lt_or_ge p l.length with h|h
    ·exact h
    ·rw[List.drop_eq_nil_of_le h] at hr;cases hr
   clear hr
   have hne:x::r0≠[]:=by simp
   obtain⟨m,rfl⟩:∃ m',m=m'+1:=⟨m - 1,by simp at hm;omega⟩
   generalize x::r0=rst at *
   have HN:Hid (rst.length<=l.length):=by unfold Hid;omega
   cases hC:zdy l.length rst with
   |none =>
    have HC:Hid (zdy l.length rst=none):=hC
    have H3:Hid (zdp l.length l.length l=none):=by rw[Hid.out H1,zzf hne hC];simp[Hid]
    clear hC hne H1
    go_wp2_with (first|(go_at_call 100;refine(z4g _ w.heap.size _ l rst hrd hl l.length HN HC).mono ?_;rintro e w1 ⟨rfl,hbut1⟩;have hB1:=hbut.trans hbut1;have hz1:=hB1.size;have hbel1:Below w.heap.size w w1:=((Below.refl _ _).alloc (Nat.le_refl _) _).trans (hB1.below (Nat.le_refl _) (by simp))))
    go_ret2
    have hzb1:=hbel1.size
    exact zu6 H3 (by repeat'(first|with_reducible(first|exact zR _ _|assumption|refine zN ?_ _|refine zA ?_ ?_ _|refine zD ?_|refine zS ?_ ?_ _)|go_size))
   |some z =>
    obtain⟨c,r2⟩:=z
    have HC:Hid (zdy l.length rst=some (c,r2)):=hC
    have hll:=zyx hC
    have H3:Hid (zdp l.length l.length l=(zdp l.length m r2).map ((acc++[c])++·)):=by rw[Hid.out H1,zoy hne hC,zy8];rfl
    clear hC hne H1
    go_wp2_with (first|(go_at_call 100;refine(z0n _ w.heap.size _ l rst r2 c hrd hl l.length HN HC).mono ?_;rintro e w1 ⟨va,vb,rfl,hs1,hl1,hr1,hbut1⟩;obtain⟨aoa,cpa,rfl⟩:=hs1.shape;obtain⟨aob,cpb,rfl⟩:=hl1.shape;have hB1:=hbut.trans hbut1;have hz1:=hB1.size;have hzz:w.heap.size+1<=w1.heap.size:=(by simpa using hz1);have ho1:=zb8 hown hbut1 hcell (by decide);have hlc1:=hlc.mono (fun _ _ k=>k.but hbut1 hcell (by decide)) (fun _ _ k=>k.but hbut1 hcell (by decide) (by decide)))|(at_builtin;refine zg6 w1 _ _ _ rfl (.tmp 22) (.tmp 24) 121 rfl (w.heap.size+1) 171 i0 _ 4 72 Tryz.underlying121 hi hz0 hzs hzb rfl (by decide) _ _ _ rfl ho1 ((Below.refl _ _).alloc (Nat.le_refl _) _) _ _ rfl (by simp) rfl (by simp[Value.oneCell']) (by omega) (by omega) hzz ?_;intro v' w2 ho2 hB2 hc2 hf2 hk2 hz2';clear hc2 hf2;have hrd2:=Rd.keep h0 hr1 (by simpa using hB2);have hbut2:=hB1.onto (by simpa using hB2);have hs2:SIn w.heap.size w2 (Value.slice aoa c.head.args.length cpa) c.head.args:=zbf (zjy ho1 (by decide) hs1 hk2) hwr;have hl2:=(hl1.push ho1 (by decide) (by decide) hk2).low hwr;have hlc2:=hlc1.mono (fun _ _ k=>zjy ho1 (by decide) k hk2) (fun _ _ k=>k.push ho1 (by decide) (by decide) hk2)))
    go_roundg r2.length
    case measure=>omega
    case rel=>exact⟨acc++[c],r2,m,_,Nat.le_refl _,by omega,by simp;omega,by rw[List.length_append];exact ho2,hlc2.snoc hs2 hl2,hrd2,hbut2,H3⟩
end Go.Proofs.YteampbddflhngaaGreat
