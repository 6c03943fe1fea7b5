import Derived.Test.YteampbddflhngabGreatJ03

namespace Go.Proofs.YteampbddflhngabGreat
set_option maxRecDepth 100000
set_option maxHeartbeats 1000000
open Go.RowKit
variable {lo:Nat}
def zex(n:Nat)(r:List Tok):Option (zac × List Tok) :=
 match zd9 r with
 |none=>none
 |some (a,r2) =>
  if hdK r2=9 then
   match zew n r2.tail with
   |none=>none
   |some (b,r3)=>if hdK r3=7 then some (⟨a,b⟩,r3.tail) else none
  else if hdK r2=7 then some (⟨a,[]⟩,r2.tail) else none
theorem z6c(w:World)(r:Nat)(wv:Value)(l rest:List Tok)(h:Rd w r wv l rest)(hl:l.length<=500)(n0:Nat)(hn0:rest.length < n0)(hp:zew n0 rest=none) :
  Calls Tryz.prog 90 #[.pointer (some ⟨r,0,none⟩)] w fun e w'=>e=.returned (.tuple #[.slice none 0 0,.bool false])/\But r w w':=by
 refine(zwf w r wv l rest h hl n0 hn0).mono ?_
 rintro e w' ⟨h1,h2⟩
 rw[hp] at h2
 exact⟨h2,h1⟩
theorem zwg(w:World)(r:Nat)(wv:Value)(l rest r2:List Tok)(b:List zbv)(h:Rd w r wv l rest)(hl:l.length<=500)(n0:Nat)(hn0:rest.length < n0)(hp:zew n0 rest=some (b,r2)) :
  Calls Tryz.prog 90 #[.pointer (some ⟨r,0,none⟩)] w fun e w'=>∃ v,e=.returned (.tuple #[v,.bool true])/\LIn w.heap.size w' v b/\Rd w' r wv l r2/\But r w w':=by
 refine(zwf w r wv l rest h hl n0 hn0).mono ?_
 rintro e w' ⟨h1,h2⟩
 rw[hp] at h2
 obtain⟨v,a,b,c⟩:=h2
 exact⟨v,a,b,c,h1⟩
def zfl(o:Option (zac × List Tok))(w:World)(r:Nat)(wv:Value)(l:List Tok)(e:Ending)(w':World):Prop :=
 But r w w'/\match o with
  |none=>e=.returned (.tuple #[.agg #[.bool false,.string ByteArray.empty,.slice none 0 0,.slice none 0 0],.bool false])
  |some (c,r2)=>∃ va vb,e=.returned (.tuple #[.agg #[.bool c.head.neg,.string c.head.pred,va,vb],.bool true])/\SIn w.heap.size w' va c.head.args/\LIn w.heap.size w' vb c.body/\Rd w' r wv l r2
theorem z3j(w:World)(r:Nat)(wv:Value)(l rest:List Tok)(h:Rd w r wv l rest)(hl:l.length<=500)(ha:zd9 rest=none) :
  Calls Tryz.prog 61 #[.pointer (some ⟨r,0,none⟩)] w fun e w'=>zfl none w r wv l e w':=by
 have hlt:=h.lt
 have hne:w.heap.size≠r:=by omega
 have HA:Hid (zd9 rest=none):=ha
 clear ha
 go_enter Tryz.func61,Tryz.ntmps61
 go_wp2_with (first|(go_at_call 88;refine(zrr _ r wv l rest (by exact h.below (by go_grown)) hl HA).mono ?_;rintro e w1 ⟨rfl,hbut1⟩;have hx1:=(Box.new w _ _).but hbut1 hne;obtain⟨hc1,hf1⟩:=hx1.rules;have hz1:=hx1.lt;have hB1:=((But.refl r w).alloc _).trans hbut1))
 exact bodyPost_ret (v:=.tuple #[.agg #[.bool false,.string ByteArray.empty,.slice none 0 0,.slice none 0 0],.bool false]) (by simp[results,Tryz.results61,go_sem,hc1,hz1];rfl) rfl ⟨(by repeat'(first|(with_reducible exact But.refl _ _)|(with_reducible assumption)|(with_reducible refine But.drewN ?_ _)|(with_reducible refine But.alloc ?_ _)|(with_reducible refine But.drew ?_)|(with_reducible refine But.setCell ?_ _ _)|(with_reducible refine But.setNew ?_ ?_ _)|go_size)),rfl⟩
theorem z3k(w:World)(r:Nat)(wv:Value)(l rest:List Tok)(h:Rd w r wv l rest)(hl:l.length<=500)(r1:List Tok)(a:zbv)(ha:zd9 rest=some (a,r1))(h9:hdK r1≠9)(h7:hdK r1≠7) :
  Calls Tryz.prog 61 #[.pointer (some ⟨r,0,none⟩)] w fun e w'=>zfl none w r wv l e w':=by
 have hlt:=h.lt
 have hne:w.heap.size≠r:=by omega
 have HA:Hid (zd9 rest=some (a,r1)):=ha
 have H9:Hid (hdK r1≠9):=h9
 have H7:Hid (hdK r1≠7):=h7
 clear ha h9 h7
 go_enter Tryz.func61,Tryz.ntmps61
 go_wp2_with (first|(go_at_call 88;refine(zhj _ r wv l rest r1 a (by exact h.below (by go_grown)) hl HA).mono ?_;rintro e w1 ⟨va,rfl,hs1,hr1,hbut1⟩;obtain⟨ao,cp,rfl⟩:=hs1.shape;have hx1:=(Box.new w _ _).but hbut1 hne;have hz1:=hx1.lt;have hlt1:=hr1.lt;have hne1:w1.heap.size≠r:=(by omega);have hB1:=((But.refl r w).alloc _).trans hbut1)|(go_at_call 89;have hq:=hr2;refine(ziy _ r wv l r1 7 hq hl (by decide) H7).mono ?_;rintro e w3 ⟨rfl,hr3,hbut3⟩;obtain⟨c7,f7,hcell7⟩:=hq.cell;have hs3:=hs2.but hbut3 hcell7 (by decide);have hx3:=hx2.but hbut3 hne;have hy3:=hy2.but hbut3 hne1;clear hc2 hf2 hd2 he2;obtain⟨hc3,hf3⟩:=hx3.rules;obtain⟨hd3,he3⟩:=hy3.rules;have hz3:=hx3.lt;have hzy3:=hy3.lt;have hlt3:=hr3.lt;have hB3:=hB2.trans hbut3;clear hq hcell7)|(go_at_call 89;have hq:=hr1;refine(ziy _ r wv l r1 9 (by exact hq.below (by go_grown)) hl (by decide) H9).mono ?_;rintro e w2 ⟨rfl,hr2,hbut2⟩;have hq1:=(But.refl r w1).alloc (Obj.cells #[.bool a.neg,.string a.pred,.slice ao a.args.length cp] 45);obtain⟨c1,f1,hcell1⟩:=hr1.cell;have hs2:=hs1.but (hq1.trans hbut2) hcell1 (by decide);have hx2:=(hx1.below ((Below.refl _ _).alloc (Nat.le_refl _) _)).but hbut2 hne;have hy2:=(Box.new w1 _ _).but hbut2 hne1;obtain⟨hc2,hf2⟩:=hx2.rules;obtain⟨hd2,he2⟩:=hy2.rules;have hz2:=hx2.lt;have hzy2:=hy2.lt;have hlt2:=hr2.lt;have hB2:=hB1.trans (hq1.trans hbut2);clear hq hq1 hcell1))
 exact bodyPost_ret (v:=.tuple #[.agg #[.bool false,.string ByteArray.empty,.slice none 0 0,.slice none 0 0],.bool false]) (by simp[results,Tryz.results61,go_sem,hc3];rfl) rfl ⟨(by repeat'(first|(with_reducible exact But.refl _ _)|(with_reducible assumption)|(with_reducible refine But.drewN ?_ _)|(with_reducible refine But.alloc ?_ _)|(with_reducible refine But.drew ?_)|(with_reducible refine But.setCell ?_ _ _)|(with_reducible refine But.setNew ?_ ?_ _)|go_size)),rfl⟩
theorem z3l(w:World)(r:Nat)(wv:Value)(l rest:List Tok)(h:Rd w r wv l rest)(hl:l.length<=500)(r1:List Tok)(a:zbv)(ha:zd9 rest=some (a,r1))(h9:hdK r1≠9)(h7:hdK r1=7) :
  Calls Tryz.prog 61 #[.pointer (some ⟨r,0,none⟩)] w fun e w'=>zfl (some (⟨a,[]⟩,r1.tail)) w r wv l e w':=by
 have hlt:=h.lt
 have hne:w.heap.size≠r:=by omega
 have HA:Hid (zd9 rest=some (a,r1)):=ha
 have H9:Hid (hdK r1≠9):=h9
 have H7:Hid (hdK r1=7):=h7
 clear ha h9 h7
 go_enter Tryz.func61,Tryz.ntmps61
 go_wp2_with (first|(go_at_call 88;refine(zhj _ r wv l rest r1 a (by exact h.below (by go_grown)) hl HA).mono ?_;rintro e w1 ⟨va,rfl,hs1,hr1,hbut1⟩;obtain⟨ao,cp,rfl⟩:=hs1.shape;have hx1:=(Box.new w _ _).but hbut1 hne;have hz1:=hx1.lt;have hlt1:=hr1.lt;have hne1:w1.heap.size≠r:=(by omega);have hB1:=((But.refl r w).alloc _).trans hbut1)|(go_at_call 89;have hq:=hr2;refine(zdn _ r wv l r1 7 hq hl (by decide) H7).mono ?_;rintro e w3 ⟨rfl,hr3,hbut3⟩;obtain⟨c7,f7,hcell7⟩:=hq.cell;have hs3:=hs2.but hbut3 hcell7 (by decide);have hx3:=hx2.but hbut3 hne;have hy3:=hy2.but hbut3 hne1;clear hc2 hf2 hd2 he2;obtain⟨hc3,hf3⟩:=hx3.rules;obtain⟨hd3,he3⟩:=hy3.rules;have hz3:=hx3.lt;have hzy3:=hy3.lt;have hlt3:=hr3.lt;have hB3:=hB2.trans hbut3;clear hq hcell7)|(go_at_call 89;have hq:=hr1;refine(ziy _ r wv l r1 9 (by exact hq.below (by go_grown)) hl (by decide) H9).mono ?_;rintro e w2 ⟨rfl,hr2,hbut2⟩;have hq1:=(But.refl r w1).alloc (Obj.cells #[.bool a.neg,.string a.pred,.slice ao a.args.length cp] 45);obtain⟨c1,f1,hcell1⟩:=hr1.cell;have hs2:=hs1.but (hq1.trans hbut2) hcell1 (by decide);have hx2:=(hx1.below ((Below.refl _ _).alloc (Nat.le_refl _) _)).but hbut2 hne;have hy2:=(Box.new w1 _ _).but hbut2 hne1;obtain⟨hc2,hf2⟩:=hx2.rules;obtain⟨hd2,he2⟩:=hy2.rules;have hz2:=hx2.lt;have hzy2:=hy2.lt;have hlt2:=hr2.lt;have hB2:=hB1.trans (hq1.trans hbut2);clear hq hq1 hcell1))
 exact bodyPost_ret (v:=.tuple #[.agg #[.bool a.neg,.string a.pred,.slice ao a.args.length cp,.slice none 0 0],.bool true]) (by simp[results,Tryz.results61,go_sem,hc3]) rfl ⟨(by repeat'(first|(with_reducible exact But.refl _ _)|(with_reducible assumption)|(with_reducible refine But.drewN ?_ _)|(with_reducible refine But.alloc ?_ _)|(with_reducible refine But.drew ?_)|(with_reducible refine But.setCell ?_ _ _)|(with_reducible refine But.setNew ?_ ?_ _)|go_size)),_,_,rfl,(hs3.low (by first|(simp;done)|omega)).but (r:=w.heap.size) (by repeat'(first|(with_reducible exact But.refl _ _)|(with_reducible assumption)|(with_reducible refine But.drewN ?_ _)|(with_reducible refine But.alloc ?_ _)|(with_reducible refine But.drew ?_)|(with_reducible refine But.setCell ?_ _ _)|(with_reducible refine But.setNew ?_ ?_ _)|go_size)) hx3 (by decide),LIn.nil _,h.keep hr3 (by go_grown)⟩
theorem z3m(w:World)(r:Nat)(wv:Value)(l rest:List Tok)(h:Rd w r wv l rest)(hl:l.length<=500)(r1:List Tok)(a:zbv)(n0:Nat)(ha:zd9 rest=some (a,r1))(h9:hdK r1=9)(hn:r1.tail.length < n0)(hb:zew n0 r1.tail=none) :
  Calls Tryz.prog 61 #[.pointer (some ⟨r,0,none⟩)] w fun e w'=>zfl none w r wv l e w':=by
 have hlt:=h.lt
 have hne:w.heap.size≠r:=by omega
 have HA:Hid (zd9 rest=some (a,r1)):=ha
 have H9:Hid (hdK r1=9):=h9
 have HN:Hid (r1.tail.length < n0):=hn
 have HB:Hid (zew n0 r1.tail=none):=hb
 clear ha h9 hn hb
 go_enter Tryz.func61,Tryz.ntmps61
 go_wp2_with (first|(go_at_call 88;refine(zhj _ r wv l rest r1 a (by exact h.below (by go_grown)) hl HA).mono ?_;rintro e w1 ⟨va,rfl,hs1,hr1,hbut1⟩;obtain⟨ao,cp,rfl⟩:=hs1.shape;have hx1:=(Box.new w _ _).but hbut1 hne;have hz1:=hx1.lt;have hlt1:=hr1.lt;have hne1:w1.heap.size≠r:=(by omega);have hB1:=((But.refl r w).alloc _).trans hbut1)|(go_at_call 90;refine(z6c _ r wv l r1.tail hr2 hl n0 HN HB).mono ?_;rintro e w3 ⟨rfl,hbut3⟩;have hx3:=hx2.but hbut3 hne;have hy3:=hy2.but hbut3 hne1;clear hc2 hf2 hd2 he2;obtain⟨hc3,hf3⟩:=hx3.rules;obtain⟨hd3,he3⟩:=hy3.rules;have hz3:=hx3.lt;have hzy3:=hy3.lt;have hB3:=hB2.trans hbut3)|(go_at_call 89;have hq:=hr1;refine(zdn _ r wv l r1 9 (by exact hq.below (by go_grown)) hl (by decide) H9).mono ?_;rintro e w2 ⟨rfl,hr2,hbut2⟩;have hq1:=(But.refl r w1).alloc (Obj.cells #[.bool a.neg,.string a.pred,.slice ao a.args.length cp] 45);obtain⟨c1,f1,hcell1⟩:=hr1.cell;have hs2:=hs1.but (hq1.trans hbut2) hcell1 (by decide);have hx2:=(hx1.below ((Below.refl _ _).alloc (Nat.le_refl _) _)).but hbut2 hne;have hy2:=(Box.new w1 _ _).but hbut2 hne1;obtain⟨hc2,hf2⟩:=hx2.rules;obtain⟨hd2,he2⟩:=hy2.rules;have hz2:=hx2.lt;have hzy2:=hy2.lt;have hlt2:=hr2.lt;have hB2:=hB1.trans (hq1.trans hbut2);clear hq hq1 hcell1))
 exact bodyPost_ret (v:=.tuple #[.agg #[.bool false,.string ByteArray.empty,.slice none 0 0,.slice none 0 0],.bool false]) (by simp[results,Tryz.results61,go_sem,hc3];rfl) rfl ⟨(by repeat'(first|(with_reducible exact But.refl _ _)|(with_reducible assumption)|(with_reducible refine But.drewN ?_ _)|(with_reducible refine But.alloc ?_ _)|(with_reducible refine But.drew ?_)|(with_reducible refine But.setCell ?_ _ _)|(with_reducible refine But.setNew ?_ ?_ _)|go_size)),rfl⟩
theorem z3n(w:World)(r:Nat)(wv:Value)(l rest:List Tok)(h:Rd w r wv l rest)(hl:l.length<=500)(r1 r2:List Tok)(a:zbv)(b:List zbv)(n0:Nat)(ha:zd9 rest=some (a,r1))(h9:hdK r1=9)(hn:r1.tail.length < n0)(hb:zew n0 r1.tail=some (b,r2))(h7:hdK r2≠7) :
  Calls Tryz.prog 61 #[.pointer (some ⟨r,0,none⟩)] w fun e w'=>zfl none w r wv l e w':=by
 have hlt:=h.lt
 have hne:w.heap.size≠r:=by omega
 have HA:Hid (zd9 rest=some (a,r1)):=ha
 have H9:Hid (hdK r1=9):=h9
 have HN:Hid (r1.tail.length < n0):=hn
 have HB:Hid (zew n0 r1.tail=some (b,r2)):=hb
 have H7:Hid (hdK r2≠7):=h7
 clear ha h9 hn hb h7
 go_enter Tryz.func61,Tryz.ntmps61
 go_wp2_with (first|(go_at_call 88;refine(zhj _ r wv l rest r1 a (by exact h.below (by go_grown)) hl HA).mono ?_;rintro e w1 ⟨va,rfl,hs1,hr1,hbut1⟩;obtain⟨ao,cp,rfl⟩:=hs1.shape;have hx1:=(Box.new w _ _).but hbut1 hne;have hz1:=hx1.lt;have hlt1:=hr1.lt;have hne1:w1.heap.size≠r:=(by omega);have hB1:=((But.refl r w).alloc _).trans hbut1)|(go_at_call 90;refine(zwg _ r wv l r1.tail r2 b hr2 hl n0 HN HB).mono ?_;rintro e w3 ⟨vb,rfl,hl3,hr3,hbut3⟩;obtain⟨aob,cpb,rfl⟩:=hl3.shape;obtain⟨c3,f3,hcell3⟩:=hr2.cell;have hs3:=hs2.but hbut3 hcell3 (by decide);have hx3:=hx2.but hbut3 hne;have hy3:=hy2.but hbut3 hne1;clear hc2 hf2 hd2 he2;obtain⟨hc3,hf3⟩:=hx3.rules;obtain⟨hd3,he3⟩:=hy3.rules;have hz3:=hx3.lt;have hzy3:=hy3.lt;have hlt3:=hr3.lt;have hB3:=hB2.trans hbut3;clear hcell3)|(go_at_call 89;have hq:=hr3;refine(ziy _ r wv l r2 7 hq hl (by decide) H7).mono ?_;rintro e w4 ⟨rfl,hr4,hbut4⟩;obtain⟨c7,f7,hcell7⟩:=hq.cell;have hs4:=hs3.but hbut4 hcell7 (by decide);have hx4:=hx3.but hbut4 hne;have hy4:=hy3.but hbut4 hne1;clear hc3 hf3 hd3 he3;obtain⟨hc4,hf4⟩:=hx4.rules;obtain⟨hd4,he4⟩:=hy4.rules;have hz4:=hx4.lt;have hzy4:=hy4.lt;have hlt4:=hr4.lt;have hB4:=hB3.trans hbut4;clear hq hcell7)|(go_at_call 89;have hq:=hr1;refine(zdn _ r wv l r1 9 (by exact hq.below (by go_grown)) hl (by decide) H9).mono ?_;rintro e w2 ⟨rfl,hr2,hbut2⟩;have hq1:=(But.refl r w1).alloc (Obj.cells #[.bool a.neg,.string a.pred,.slice ao a.args.length cp] 45);obtain⟨c1,f1,hcell1⟩:=hr1.cell;have hs2:=hs1.but (hq1.trans hbut2) hcell1 (by decide);have hx2:=(hx1.below ((Below.refl _ _).alloc (Nat.le_refl _) _)).but hbut2 hne;have hy2:=(Box.new w1 _ _).but hbut2 hne1;obtain⟨hc2,hf2⟩:=hx2.rules;obtain⟨hd2,he2⟩:=hy2.rules;have hz2:=hx2.lt;have hzy2:=hy2.lt;have hlt2:=hr2.lt;have hB2:=hB1.trans (hq1.trans hbut2);clear hq hq1 hcell1))
 exact bodyPost_ret (v:=.tuple #[.agg #[.bool false,.string ByteArray.empty,.slice none 0 0,.slice none 0 0],.bool false]) (by simp[results,Tryz.results61,go_sem,hc4];rfl) rfl ⟨(by repeat'(first|(with_reducible exact But.refl _ _)|(with_reducible assumption)|(with_reducible refine But.drewN ?_ _)|(with_reducible refine But.alloc ?_ _)|(with_reducible refine But.drew ?_)|(with_reducible refine But.setCell ?_ _ _)|(with_reducible refine But.setNew ?_ ?_ _)|go_size)),rfl⟩
theorem z3o(w:World)(r:Nat)(wv:Value)(l rest:List Tok)(h:Rd w r wv l rest)(hl:l.length<=500)(r1 r2:List Tok)(a:zbv)(b:List zbv)(n0:Nat)(ha:zd9 rest=some (a,r1))(h9:hdK r1=9)(hn:r1.tail.length < n0)(hb:zew n0 r1.tail=some (b,r2))(h7:hdK r2=7) :
  Calls Tryz.prog 61 #[.pointer (some ⟨r,0,none⟩)] w fun e w'=>zfl (some (⟨a,b⟩,r2.tail)) w r wv l e w':=by
 have hlt:=h.lt
 have hne:w.heap.size≠r:=by omega
 have HA:Hid (zd9 rest=some (a,r1)):=ha
 have H9:Hid (hdK r1=9):=h9
 have HN:Hid (r1.tail.length < n0):=hn
 have HB:Hid (zew n0 r1.tail=some (b,r2)):=hb
 have H7:Hid (hdK r2=7):=h7
 clear ha h9 hn hb h7
 go_enter Tryz.func61,Tryz.ntmps61
 go_wp2_with (first|(go_at_call 88;refine(zhj _ r wv l rest r1 a (by exact h.below (by go_grown)) hl HA).mono ?_;rintro e w1 ⟨va,rfl,hs1,hr1,hbut1⟩;obtain⟨ao,cp,rfl⟩:=hs1.shape;have hx1:=(Box.new w _ _).but hbut1 hne;have hz1:=hx1.lt;have hlt1:=hr1.lt;have hne1:w1.heap.size≠r:=(by omega);have hB1:=((But.refl r w).alloc _).trans hbut1)|(go_at_call 90;refine(zwg _ r wv l r1.tail r2 b hr2 hl n0 HN HB).mono ?_;rintro e w3 ⟨vb,rfl,hl3,hr3,hbut3⟩;obtain⟨aob,cpb,rfl⟩:=hl3.shape;obtain⟨c3,f3,hcell3⟩:=hr2.cell;have hs3:=hs2.but hbut3 hcell3 (by decide);have hx3:=hx2.but hbut3 hne;have hy3:=hy2.but hbut3 hne1;clear hc2 hf2 hd2 he2;obtain⟨hc3,hf3⟩:=hx3.rules;obtain⟨hd3,he3⟩:=hy3.rules;have hz3:=hx3.lt;have hzy3:=hy3.lt;have hlt3:=hr3.lt;have hB3:=hB2.trans hbut3;clear hcell3)|(go_at_call 89;have hq:=hr3;refine(zdn _ r wv l r2 7 hq hl (by decide) H7).mono ?_;rintro e w4 ⟨rfl,hr4,hbut4⟩;obtain⟨c7,f7,hcell7⟩:=hq.cell;have hs4:=hs3.but hbut4 hcell7 (by decide);have hl4:=hl3.but hbut4 hcell7 (by decide) (by decide);have hx4:=hx3.but hbut4 hne;have hy4:=hy3.but hbut4 hne1;clear hc3 hf3 hd3 he3;obtain⟨hc4,hf4⟩:=hx4.rules;obtain⟨hd4,he4⟩:=hy4.rules;have hz4:=hx4.lt;have hzy4:=hy4.lt;have hlt4:=hr4.lt;have hB4:=hB3.trans hbut4;clear hq hcell7)|(go_at_call 89;have hq:=hr1;refine(zdn _ r wv l r1 9 (by exact hq.below (by go_grown)) hl (by decide) H9).mono ?_;rintro e w2 ⟨rfl,hr2,hbut2⟩;have hq1:=(But.refl r w1).alloc (Obj.cells #[.bool a.neg,.string a.pred,.slice ao a.args.length cp] 45);obtain⟨c1,f1,hcell1⟩:=hr1.cell;have hs2:=hs1.but (hq1.trans hbut2) hcell1 (by decide);have hx2:=(hx1.below ((Below.refl _ _).alloc (Nat.le_refl _) _)).but hbut2 hne;have hy2:=(Box.new w1 _ _).but hbut2 hne1;obtain⟨hc2,hf2⟩:=hx2.rules;obtain⟨hd2,he2⟩:=hy2.rules;have hz2:=hx2.lt;have hzy2:=hy2.lt;have hlt2:=hr2.lt;have hB2:=hB1.trans (hq1.trans hbut2);clear hq hq1 hcell1))
 exact bodyPost_ret (v:=.tuple #[.agg #[.bool a.neg,.string a.pred,.slice ao a.args.length cp,.slice aob b.length cpb],.bool true]) (by simp[results,Tryz.results61,go_sem,hc4]) rfl ⟨(by repeat'(first|(with_reducible exact But.refl _ _)|(with_reducible assumption)|(with_reducible refine But.drewN ?_ _)|(with_reducible refine But.alloc ?_ _)|(with_reducible refine But.drew ?_)|(with_reducible refine But.setCell ?_ _ _)|(with_reducible refine But.setNew ?_ ?_ _)|go_size)),_,_,rfl,(hs4.low (by first|(simp;done)|omega)).but (r:=w.heap.size) (by repeat'(first|(with_reducible exact But.refl _ _)|(with_reducible assumption)|(with_reducible refine But.drewN ?_ _)|(with_reducible refine But.alloc ?_ _)|(with_reducible refine But.drew ?_)|(with_reducible refine But.setCell ?_ _ _)|(with_reducible refine But.setNew ?_ ?_ _)|go_size)) hx4 (by decide),(hl4.low (by first|(simp;done)|omega)).but (r:=w.heap.size) (by repeat'(first|(with_reducible exact But.refl _ _)|(with_reducible assumption)|(with_reducible refine But.drewN ?_ _)|(with_reducible refine But.alloc ?_ _)|(with_reducible refine But.drew ?_)|(with_reducible refine But.setCell ?_ _ _)|(with_reducible refine But.setNew ?_ ?_ _)|go_size)) hx4 (by decide) (by decide),h.keep hr4 (by go_grown)⟩
theorem zo0(w:World)(r:Nat)(wv:Value)(l rest:List Tok)(h:Rd w r wv l rest)(hl:l.length<=500)(n0:Nat)(hn0:rest.length<=n0) :
  Calls Tryz.prog 61 #[.pointer (some ⟨r,0,none⟩)] w fun e w'=>zfl (zex n0 rest) w r wv l e w':=by
 unfold zex
 split
 ·rename_i ha;exact z3j w r wv l rest h hl ha
 ·rename_i a r1 ha
  have hlen:=zkx ha
  split
  ·rename_i h9
   have hn:r1.tail.length < n0:=by simp;omega
   split
   ·rename_i hb;exact z3m w r wv l rest h hl r1 a n0 ha h9 hn hb
   ·rename_i b r2 hb
    split
    ·rename_i h7;exact z3o w r wv l rest h hl r1 r2 a b n0 ha h9 hn hb h7
    ·rename_i h7;exact z3n w r wv l rest h hl r1 r2 a b n0 ha h9 hn hb h7
  ·rename_i h9
   split
   ·rename_i h7;exact z3l w r wv l rest h hl r1 a ha h9 h7
   ·rename_i h7;exact z3k w r wv l rest h hl r1 a ha h9 h7
def zdl(lo:Nat)(w:World):List zac->List Value->Prop
 |[],xs=>xs=[]
 |c::cs,xs=>∃ va vb r,xs=.bool c.head.neg::.string c.head.pred::va::vb::r/\SIn lo w va c.head.args/\LIn lo w vb c.body/\zdl lo w cs r
theorem zdl.snoc{w:World}{c:zac}{va vb:Value}(hs:SIn lo w va c.head.args)(hb:LIn lo w vb c.body):∀ {ls:List zac} {xs:List Value},zdl lo w ls xs->zdl lo w (ls++[c]) (xs++[.bool c.head.neg,.string c.head.pred,va,vb])
 |[],_,h=>by simp only[zdl] at h;subst h;exact⟨va,vb,[],rfl,hs,hb,rfl⟩
 |_::ls,_,h=>by obtain⟨v,v2,r,rfl,h1,h2,h3⟩:=h;exact⟨v,v2,r++[.bool c.head.neg,.string c.head.pred,va,vb],rfl,h1,h2,zdl.snoc hs hb h3⟩
theorem zdl.mono{w w':World}(hm:∀ va l,SIn lo w va l->SIn lo w' va l)(hm2:∀ va l,LIn lo w va l->LIn lo w' va l):∀ {ls:List zac} {xs:List Value},zdl lo w ls xs->zdl lo w' ls xs
 |[],_,h=>h
 |_::ls,_,h=>by obtain⟨v,v2,r,rfl,h1,h2,h3⟩:=h;exact⟨v,v2,r,rfl,hm _ _ h1,hm2 _ _ h2,zdl.mono hm hm2 h3⟩
theorem zdl.at{w:World}:∀ {ls:List zac} {xs:List Value} (i:Nat) (c:zac),zdl lo w ls xs->ls[i]?=some c →
  ∃ va vb,xs[i * 4]?=some (.bool c.head.neg)/\xs[i * 4+1]?=some (.string c.head.pred)/\xs[i * 4+2]?=some va/\xs[i * 4+3]?=some vb/\SIn lo w va c.head.args/\LIn lo w vb c.body
 |[],_,i,a,_,hi=>by simp at hi
 |_::ls,_,0,a,h,hi=>by obtain⟨v,v2,r,rfl,h1,h2,h3⟩:=h;simp at hi;subst hi;exact⟨v,v2,rfl,rfl,rfl,rfl,h1,h2⟩
 |_::ls,_,i+1,a,h,hi=>by
  obtain⟨v,v2,r,rfl,h1,h2,h3⟩:=h
  obtain⟨va,vb,a1,a2,a3,a4,a5⟩:=zdl.at i a h3 (by simpa using hi)
  refine⟨va,vb,?_,?_,?_,?_,a5⟩
  ·rw[show(i+1) * 4=i * 4+1+1+1+1 from by omega];simpa using a1
  ·rw[show(i+1) * 4+1=i * 4+1+1+1+1+1 from by omega];simpa using a2
  ·rw[show(i+1) * 4+2=i * 4+2+1+1+1+1 from by omega];simpa using a3
  ·rw[show(i+1) * 4+3=i * 4+3+1+1+1+1 from by omega];simpa using a4
def CIn(lo:Nat)(T:TypeId)(w:World)(v:Value)(ls:List zac):Prop:=∃ xs,w.ownsRow lo T 4 v ls.length xs/\zdl lo w ls xs
theorem zdl.low{a b:Nat}{w:World}(hab:a<=b):∀ {ls:List zac} {xs:List Value},zdl b w ls xs->zdl a w ls xs
 |[],_,h=>h
 |_::ls,_,h=>by obtain⟨v,v2,r,rfl,h1,h2,h3⟩:=h;exact⟨v,v2,r,rfl,h1.low hab,h2.low hab,zdl.low hab h3⟩
theorem CIn.low{a b:Nat}{T:TypeId}{w:World}{v:Value}{l:List zac}(h:CIn b T w v l)(hab:a<=b):CIn a T w v l:=by obtain⟨xs,h,hc⟩:=h;exact⟨xs,zbb h hab,hc.low hab⟩
theorem CIn.shape{T:TypeId}{w:World}{v:Value}{l:List zac}(h:CIn lo T w v l):∃ ao cap,v=.slice ao l.length cap:=by obtain⟨xs,h,_⟩:=h;exact zab h
theorem CIn.below{T:TypeId}{w w':World}{v:Value}{l:List zac}(h:CIn lo T w v l)(hb:Below w.heap.size w w'):CIn lo T w' v l:=by
 obtain⟨xs,h,hc⟩:=h;exact⟨xs,zaa h hb,hc.mono (fun _ _ k=>k.below hb) (fun _ _ k=>k.below hb)⟩
theorem LIn.push{wO w2:World}{b:Nat}{e:TypeId}{s:Nat}{v v2:Value}{n:Nat}{xs:List Value}{ls:List zbv}(hv:wO.ownsRow b e s v n xs)(hne:e≠45)(hne2:e≠9)(h:LIn lo wO v2 ls)
  (hk:∀ k,k < wO.heap.size->some k≠v.ownBlock->w2.heap[k]?=wO.heap[k]?):LIn lo w2 v2 ls:=by
 obtain⟨xs2,h1,h2⟩:=h
 exact⟨xs2,zi2 hv hne h1 hk,h2.mono fun _ _ k=>zi2 hv hne2 k hk⟩
def zeo(n0:Nat):Nat->List Tok->Option (List zac)
 |_,[]=>some []
 |0,_::_=>none
 |m+1,x::r=>match zex n0 (x::r) with
  |none=>none
  |some (c,r2)=>(zeo n0 m r2).map (c::·)
theorem zwz{n0 m:Nat}{r:List Tok}(hr:r≠[])(h:zex n0 r=none):zeo n0 (m+1) r=none:=by
 cases r with
 |nil=>exact absurd rfl hr
 |cons x r=>simp[zeo,h]
theorem zte{n0 m:Nat}{r r2:List Tok}{c:zac}(hr:r≠[])(h:zex n0 r=some (c,r2)):zeo n0 (m+1) r=(zeo n0 m r2).map (c::·):=by
 cases r with
 |nil=>exact absurd rfl hr
 |cons x r=>simp[zeo,h]
theorem z1q{n:Nat}:∀ {r r2:List Tok} {b:List zbv},zew n r=some (b,r2)->r2.length < r.length:=by
 induction n with
 |zero=>intro r r2 b h;simp[zew] at h
 |succ n ih =>
  intro r r2 b h
  cases hl:zri r with
  |none=>rw[zqy hl] at h;cases h
  |some z =>
   obtain⟨a,r3⟩:=z
   have:=zwy hl
   by_cases h6:hdK r3=6
   ·rw[zlm hl h6] at h
    cases hq:zew n r3.tail with
    |none=>rw[hq] at h;simp at h
    |some z =>
     rw[hq] at h;simp at h
     have:=ih hq
     obtain⟨_,rfl⟩:=h;simp at this;omega
   ·rw[zln hl h6] at h;simp at h;obtain⟨_,rfl⟩:=h;omega
theorem zvf{n:Nat}{r r2:List Tok}{c:zac}(h:zex n r=some (c,r2)):r2.length < r.length:=by
 unfold zex at h
 split at h
 ·cases h
 ·rename_i a r1 ha
  have:=zkx ha
  split at h
  ·split at h
   ·cases h
   ·rename_i b r3 hb
    have:=z1q hb
    split at h <;> simp at h
    obtain⟨_,rfl⟩:=h;simp at this ⊢;omega
  ·split at h <;> simp at h
   obtain⟨_,rfl⟩:=h;simp;omega
theorem zz7(w:World)(r:Nat)(wv:Value)(l rest:List Tok)(h:Rd w r wv l rest)(hl:l.length<=500)(n0:Nat)(hn0:rest.length<=n0)(hp:zex n0 rest=none) :
  Calls Tryz.prog 61 #[.pointer (some ⟨r,0,none⟩)] w fun e w'=>e=.returned (.tuple #[.agg #[.bool false,.string ByteArray.empty,.slice none 0 0,.slice none 0 0],.bool false])/\But r w w':=by
 refine(zo0 w r wv l rest h hl n0 hn0).mono ?_
 rintro e w' ⟨h1,h2⟩
 rw[hp] at h2
 exact⟨h2,h1⟩
theorem zxt(w:World)(r:Nat)(wv:Value)(l rest r2:List Tok)(c:zac)(h:Rd w r wv l rest)(hl:l.length<=500)(n0:Nat)(hn0:rest.length<=n0)(hp:zex n0 rest=some (c,r2)) :
  Calls Tryz.prog 61 #[.pointer (some ⟨r,0,none⟩)] w fun e w'=>∃ va vb,e=.returned (.tuple #[.agg #[.bool c.head.neg,.string c.head.pred,va,vb],.bool true])/\SIn w.heap.size w' va c.head.args/\LIn w.heap.size w' vb c.body/\Rd w' r wv l r2/\But r w w':=by
 refine(zo0 w r wv l rest h hl n0 hn0).mono ?_
 rintro e w' ⟨h1,h2⟩
 rw[hp] at h2
 obtain⟨v,v2,a,b,c,d⟩:=h2
 exact⟨v,v2,a,b,c,d,h1⟩
theorem Tryz.infoClause:(Tryz.prog.info? 90).map (fun i=>(i.zero,i.size,i.bytes))=some (some (.agg #[.bool false,.string ByteArray.empty,.slice none 0 0,.slice none 0 0]),4,72):=by kernel_rfl
def zmr(o:Option (List zac))(w:World)(e:Ending)(w':World):Prop :=
 Below w.heap.size w w'/\match o with
  |none=>e=.returned (.tuple #[.slice none 0 0,.bool false])
  |some cs=>∃ v,e=.returned (.tuple #[v,.bool true])/\CIn w.heap.size 90 w' v cs
theorem zth{o:Option (List zac)}{w w':World}(h:Hid (o=none))(hb:Below w.heap.size w w'):zmr o w (.returned (.tuple #[.slice none 0 0,.bool false])) w':=by
 have h':o=none:=h
 subst h';exact⟨hb,rfl⟩
theorem zqz{o:Option (List zac)}{w w':World}{v:Value}{cs:List zac}(h:Hid (o=some cs))(hb:Below w.heap.size w w')(hs:CIn w.heap.size 90 w' v cs):zmr o w (.returned (.tuple #[v,.bool true])) w':=by
 have h':o=some cs:=h
 subst h';exact⟨hb,v,rfl,hs⟩
theorem parse_any(w:World)(wv:Value)(l:List Tok)(base:Nat)(hw:w.ownsRow base 129 2 wv l.length (zgb l))(hl:l.length<=500) :
  Calls Tryz.prog 38 #[wv] w fun e w'=>zmr (zeo l.length l.length l) w e w':=by
 obtain⟨i0,hi,hz0,hzs,hzb⟩:=info_parts Tryz.infoClause
 obtain⟨ao,cap,rfl⟩:=zab hw
 have h0:Rd (w.alloc (.cells #[.slice ao l.length cap,.int .i64 0] 132)) w.heap.size (.slice ao l.length cap) l l :=
  ⟨⟨0,Nat.zero_le _,rfl,Box.new _ _ _⟩,base,zaa hw ((Below.refl _ _).alloc (Nat.le_refl _) _)⟩
 clear hw
 go_enter Tryz.func38,Tryz.ntmps38
 go_wp2
 go_loopg [5] (l.length) (fun n v wr=>∃(acc:List zac) (rst:List Tok) (m:Nat) (xs:List Value),rst.length<=n/\rst.length<=m/\rst.length+acc.length<=l.length ∧
   wr.ownsRow (w.heap.size+1) 90 4 v acc.length xs/\zdl w.heap.size wr acc xs/\Rd wr w.heap.size (.slice ao l.length cap) l rst/\But w.heap.size (w.alloc (.cells #[.slice ao l.length cap,.int .i64 0] 132)) wr ∧
   Hid (zeo l.length l.length l=(zeo l.length m rst).map (acc++·)))
 case atStart=>exact⟨[],l,l.length,[],Nat.le_refl _,Nat.le_refl _,by simp,World.ownsRow_nil _ _ _ _,rfl,h0,But.refl _ _,(by simp[Hid])⟩
 case round =>
  obtain⟨acc,rst,m,xs,hn,hm,hra,hown,hlc,hrd,hbut,H1⟩:=hrel
  have hwr:w.heap.size<=wr.heap.size:=by have:=hbut.size;simp at this;omega
  obtain⟨c0,f0,hcell⟩:=hrd.cell
  have HCELL:Hid (wr.heap[w.heap.size]?=some (.cells c0 132 f0)):=hcell
  obtain⟨p,ao',cap',hp,hr,hwv,hblk,hc0,hc1,hfz,hx⟩:=hrd.view
  clear hwv hx hblk
  cases rst with
  |nil =>
   have hpl:p=l.length:=by
    have:=congrArg List.length hr;simp at this;omega
   have H3:Hid (zeo l.length l.length l=some acc):=by rw[Hid.out H1];cases m <;> simp[zeo,Hid]
   have hbel:Below w.heap.size w wr:=((Below.refl _ _).alloc (Nat.le_refl _) _).trans (hbut.below (Nat.le_refl _) (by simp))
   subst hpl
   clear hr H1 hcell
   go_wp2
   go_ret2
   exact zqz H3 hbel ⟨_,zbb hown (by omega),hlc⟩
  |cons x r0 =>
   have hpl:p < l.length:=by
    rcases Nat.lt_or_ge p l.length with h|h
    ·exact h
    ·rw[List.drop_eq_nil_of_le h] at hr;cases hr
   clear hr
   have hne:x::r0≠[]:=by simp
   obtain⟨m,rfl⟩:∃ m',m=m'+1:=⟨m - 1,by simp at hm;omega⟩
   generalize x::r0=rst at *
   have HN:Hid (rst.length<=l.length):=by unfold Hid;omega
   cases hC:zex l.length rst with
   |none =>
    have HC:Hid (zex l.length rst=none):=hC
    have H3:Hid (zeo l.length l.length l=none):=by rw[Hid.out H1,zwz hne hC];simp[Hid]
    clear hC hne H1
    go_wp2_with (first|(go_at_call 61;refine(zz7 _ w.heap.size _ l rst hrd hl l.length HN HC).mono ?_;rintro e w1 ⟨rfl,hbut1⟩;have hB1:=hbut.trans hbut1;have hz1:=hB1.size;have hbel1:Below w.heap.size w w1:=((Below.refl _ _).alloc (Nat.le_refl _) _).trans (hB1.below (Nat.le_refl _) (by simp))))
    go_ret2
    have hzb1:=hbel1.size
    exact zth H3 (by go_grown)
   |some z =>
    obtain⟨c,r2⟩:=z
    have HC:Hid (zex l.length rst=some (c,r2)):=hC
    have hll:=zvf hC
    have H3:Hid (zeo l.length l.length l=(zeo l.length m r2).map ((acc++[c])++·)):=by rw[Hid.out H1,zte hne hC,zwt];rfl
    clear hC hne H1
    go_wp2_with (first|(go_at_call 61;refine(zxt _ w.heap.size _ l rst r2 c hrd hl l.length HN HC).mono ?_;rintro e w1 ⟨va,vb,rfl,hs1,hl1,hr1,hbut1⟩;obtain⟨aoa,cpa,rfl⟩:=hs1.shape;obtain⟨aob,cpb,rfl⟩:=hl1.shape;have hB1:=hbut.trans hbut1;have hz1:=hB1.size;have hzz:w.heap.size+1<=w1.heap.size:=(by simpa using hz1);have ho1:=zb4 hown hbut1 hcell (by decide);have hlc1:=hlc.mono (fun _ _ k=>k.but hbut1 hcell (by decide)) (fun _ _ k=>k.but hbut1 hcell (by decide) (by decide)))|(at_builtin;refine zgw w1 _ _ _ rfl (.tmp 22) (.tmp 24) 78 rfl (w.heap.size+1) 90 i0 _ 4 72 Tryz.underlying78 hi hz0 hzs hzb rfl (by decide) _ _ _ rfl ho1 ((Below.refl _ _).alloc (Nat.le_refl _) _) _ _ rfl (by simp) rfl (by simp[Value.oneCell']) (by omega) (by omega) hzz ?_;intro v' w2 ho2 hB2 hc2 hf2 hk2 hz2';clear hc2 hf2;have hrd2:=Rd.keep h0 hr1 (by simpa using hB2);have hbut2:=hB1.onto (by simpa using hB2);have hs2:SIn w.heap.size w2 (Value.slice aoa c.head.args.length cpa) c.head.args:=zbb (zi2 ho1 (by decide) hs1 hk2) hwr;have hl2:=(hl1.push ho1 (by decide) (by decide) hk2).low hwr;have hlc2:=hlc1.mono (fun _ _ k=>zi2 ho1 (by decide) k hk2) (fun _ _ k=>k.push ho1 (by decide) (by decide) hk2)))
    go_roundg r2.length
    case measure=>omega
    case rel=>exact⟨acc++[c],r2,m,_,Nat.le_refl _,by omega,by simp;omega,by rw[List.length_append];exact ho2,hlc2.snoc hs2 hl2,hrd2,hbut2,H3⟩
theorem zbn(t:ByteArray)(w:World) :
  Calls Tryz.prog 98 #[.string t] w fun e w'=>e=.returned (.bool (zba t))/\w'=w:=by
 unfold zba
 by_cases h:0 < t.size
 ·rw[zrt h]
  go_enter Tryz.func98,Tryz.ntmps98
  go_wp2
  all_goals go_ret
  all_goals go_light
  all_goals exact⟨by simp_all [z5j];try omega,rfl⟩
 ·rw[zzz h]
  go_enter Tryz.func98,Tryz.ntmps98
  go_wp2
  all_goals go_ret
  all_goals go_light
  all_goals exact⟨by simp_all [z5j],rfl⟩
theorem SIn.cell{w:World}{ao:Option Addr}{n cap:Nat}{vs:List ByteArray}(h:SIn lo w (.slice ao n cap) vs)(k:Nat)(hk:k < vs.length):∃ g,ao=some ⟨g,0,none⟩/\g < w.heap.size/\w.cell? ⟨g,k,none⟩=some (.string vs[k]):=by
 have ho:=h
 obtain⟨g,cap',hv,_,hg,hcl⟩:=zas ho (by omega)
 simp at hv
 exact⟨g,hv.1,hg,hcl k _ (by simp[hk])⟩
def zbc:List ByteArray->ByteArray->Option Nat
 |[],_=>none
 |y::r,n=>if y=n then some 0 else(zbc r n).map (·+1)
theorem znw:∀ {l:List ByteArray} {n:ByteArray} {k:Nat},zbc l n=some k->∃ h:k < l.length,l[k]=n
 |[],_,_,h=>by simp[zbc] at h
 |y::r,n,k,h=>by
  unfold zbc at h
  split at h
  ·simp at h;subst h;exact⟨by simp,by simpa⟩
  ·cases hq:zbc r n with
   |none=>rw[hq] at h;simp at h
   |some j=>rw[hq] at h;simp at h;subst h;obtain⟨h1,h2⟩:=znw hq;exact⟨by simpa using h1,by simpa using h2⟩
theorem znx{l:List ByteArray}{n:ByteArray}{k:Nat}(hk:k < l.length)(hne:l[k]≠n):zbc (l.drop k) n=(zbc (l.drop (k+1)) n).map (·+1):=by rw[List.drop_eq_getElem_cons hk,zbc,if_neg hne]
theorem znv{l:List ByteArray}{n:ByteArray}{k:Nat}(hk:k < l.length)(he:l[k]=n):zbc (l.drop k) n=some 0:=by rw[List.drop_eq_getElem_cons hk,zbc,if_pos he]
theorem zj3:∀(l:List ByteArray) (n:ByteArray),(zbc l n).isSome=zon n l
 |[],n=>by rw[zu7.2 (by simp)];rfl
 |y::r,n=>by
  unfold zbc
  by_cases e:y=n
  ·rw[if_pos e,zfx.2 (by simp[e])];rfl
  ·rw[if_neg e,Option.isSome_map,zj3 r n]
   cases h:zon n r with
   |true=>exact(zfx.2 (List.mem_cons_of_mem _ (zfx.1 h))).symm
   |false=>exact(zu7.2 (by have:=zu7.1 h;simp[this,Ne.symm e])).symm
theorem zzd(w:World)(vb:Nat)(nv:Value)(vs:List ByteArray)(t:ByteArray)(hbox:Box w vb #[nv] 124)(hs:SIn lo w nv vs)(hl:vs.length<=1000) :
  Calls Tryz.prog 128 #[.pointer (some ⟨vb,0,none⟩),.string t] w fun e w'=>e=.returned (.tuple #[.int .i64 ((zbc vs t).getD 0:Nat),.bool (zbc vs t).isSome])/\w'=w:=by
 obtain⟨hc,hf⟩:=hbox.rules
 obtain⟨ao,cap,rfl⟩:=hs.shape
 go_enter Tryz.func128,Tryz.ntmps128
 go_wp2
 go_loop [13] (fun i=>∃ k:Nat,k<=vs.length/\i=.int .i64 k/\Hid (zbc vs t=(zbc (vs.drop k) t).map (·+k))) (fun i=>vs.length - (intOf i).toNat)
 case atStart=>exact⟨0,Nat.zero_le _,rfl,by simp[Hid]⟩
 case round =>
  obtain⟨k,hk,rfl,H⟩:=hrel
  by_cases hlt:k < vs.length
  ·obtain⟨g,rfl,hg,hck⟩:=hs.cell k hlt
   by_cases hx:vs[k]=t
   ·have he:=zg4 hx
    have H2:Hid (zbc vs t=some k):=by rw[Hid,H.out,znv hlt hx];simp
    clear hx H
    generalize vs[k]=x at *
    go_wp2
    go_ret2
    exact⟨by rw[H2.out];rfl,rfl⟩
   ·have he:=zf3 hx
    have H2:Hid (zbc vs t=(zbc (vs.drop (k+1)) t).map (·+(k+1))):=by
     rw[Hid,H.out,znx hlt hx];cases zbc (vs.drop (k+1)) t <;> simp;omega
    clear hx H
    generalize vs[k]=x at *
    go_wp2
    go_round
    case rel=>exact⟨k+1,by omega,by go_num,H2⟩
    case measure=>simp[intOf];omega
  ·have H2:Hid (zbc vs t=none):=by rw[Hid,H.out,List.drop_eq_nil_of_le (by omega)];rfl
   clear H
   go_wp2
   go_ret2
   exact⟨by rw[H2.out];rfl,rfl⟩
theorem zqo(w:World)(vb:Nat)(nv:Value)(vs:List ByteArray)(t:ByteArray)(hbox:Box w vb #[nv] 124)(hs:SIn lo w nv vs)(hl:vs.length<=1000) :
  Calls Tryz.prog 109 #[.pointer (some ⟨vb,0,none⟩),.string t] w fun e w'=>e=.returned (.bool (zon t vs))/\w'=w:=by
 rw[← zj3 vs t]
 have HP:Hid (Calls Tryz.prog 128 #[.pointer (some ⟨vb,0,none⟩),.string t] w fun e w'=>e=.returned (.tuple #[.int .i64 ((zbc vs t).getD 0:Nat),.bool (zbc vs t).isSome])/\w'=w):=zzd w vb nv vs t hbox hs hl
 generalize zbc vs t=o at *
 go_enter Tryz.func109,Tryz.ntmps109
 go_wp2_with (first|(go_at_call 128;refine HP.out.mono ?_;rintro e w' ⟨rfl,rfl⟩;clear HP))
 go_ret
 exact⟨rfl,rfl⟩
end Go.Proofs.YteampbddflhngabGreat
