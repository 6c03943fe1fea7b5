import Derived.Test.YteampbddflhngabGreatJ02

namespace Go.Proofs.YteampbddflhngabGreat
set_option maxRecDepth 100000
set_option maxHeartbeats 1000000
open Go.RowKit
variable {lo:Nat}
def zgc(o:Option (zbv × List Tok))(w:World)(r:Nat)(wv:Value)(l:List Tok)(e:Ending)(w':World):Prop :=
 But r w w'/\match o with
  |none=>e=.returned (.tuple #[.agg #[.bool false,.string ByteArray.empty,.slice none 0 0],.bool false])
  |some (a,r2)=>∃ va,e=.returned (.tuple #[.agg #[.bool a.neg,.string a.pred,va],.bool true])/\SIn w.heap.size w' va a.args/\Rd w' r wv l r2
theorem z5x(w:World)(r:Nat)(wv:Value)(l rest:List Tok)(h:Rd w r wv l rest)(hl:l.length<=500)(h1:(hdK rest == 1)=false) :
  Calls Tryz.prog 88 #[.pointer (some ⟨r,0,none⟩)] w fun e w'=>zgc none w r wv l e w':=by
 have hlt:=h.lt
 have hne:w.heap.size≠r:=by omega
 go_enter Tryz.func88,Tryz.ntmps88
 go_wp2_with (first|(go_at_call 116;refine(zh0 _ r wv l rest (by exact h.below (by go_grown)) hl).mono ?_;rintro e w1 ⟨rfl,hb1⟩;have hB1:=zae ((Below.refl _ _).alloc (Nat.le_refl _) _) hb1 (Nat.le_refl _);have hx1:=(Box.new w _ _).below hb1;have hr1:=h.below hB1)|(go_at_call 89;refine(take_any _ r wv l rest 1 (by exact hr1.below (by go_grown)) hl (by decide)).mono ?_;rintro e w2 ⟨rfl,hrd2,hbut2⟩;have hx2:=(hx1.below ((Below.refl _ _).alloc (Nat.le_refl _) _)).but hbut2 hne;obtain⟨hc2,hf2⟩:=hx2.rules))
 have hB:=(But.of hB1).trans (((But.refl r w1).alloc _).trans hbut2)
 exact bodyPost_ret (v:=.tuple #[.agg #[.bool false,.string ByteArray.empty,.slice none 0 0],.bool false]) (by simp[results,Tryz.results88,go_sem,hc2];rfl) rfl ⟨(by repeat'(first|(with_reducible exact But.refl _ _)|(with_reducible assumption)|(with_reducible refine But.drewN ?_ _)|(with_reducible refine But.alloc ?_ _)|(with_reducible refine But.drew ?_)|(with_reducible refine But.setCell ?_ _ _)|(with_reducible refine But.setNew ?_ ?_ _)|go_size)),rfl⟩
theorem zzx(w:World)(r:Nat)(wv:Value)(l rest:List Tok)(h:Rd w r wv l rest)(hl:l.length<=500)(h1:hdK rest=1)(h4:hdK rest.tail≠4) :
  Calls Tryz.prog 88 #[.pointer (some ⟨r,0,none⟩)] w fun e w'=>zgc (some (⟨false,(rest.headD (0,ByteArray.empty)).2,[]⟩,rest.tail)) w r wv l e w':=by
 have hlt:=h.lt
 have hne:w.heap.size≠r:=by omega
 generalize ht:(rest.headD (0,ByteArray.empty)).2=t
 have HT:Hid ((rest.headD (0,ByteArray.empty)).2=t):=ht
 clear ht
 have H1:Hid (hdK rest=1):=h1
 have HPK:Hid (∀ W,Rd W r wv l rest->Calls Tryz.prog 116 #[.pointer (some ⟨r,0,none⟩)] W fun e w'=>e=.returned (.agg #[.int .i64 1,.string t])/\Below W.heap.size W w'):=fun W hW=>by
  have:=zh0 W r wv l rest hW hl
  rw[h1,Hid.out HT] at this
  exact this
 have H4:Hid (hdK rest.tail≠4):=h4
 clear h1 h4 HT
 go_enter Tryz.func88,Tryz.ntmps88
 go_wp2_with (first|(go_at_call 116;refine(Hid.out HPK _ (by exact h.below (by go_grown))).mono ?_;rintro e w1 ⟨rfl,hb1⟩;have hB1:=zae ((Below.refl _ _).alloc (Nat.le_refl _) _) hb1 (Nat.le_refl _);have hx1:=(Box.new w _ _).below hb1;have hz1:=hx1.lt;have hr1:=h.below hB1;have hlt1:r < w1.heap.size:=(by omega);have hne1:w1.heap.size≠r:=(by omega))|(go_at_call 89;have hq:=hr2;refine(ziy _ r wv l rest.tail 4 hq hl (by decide) H4).mono ?_;rintro e w3 ⟨rfl,hr3,hbut3⟩;have hx3:=hx2.but hbut3 hne;have hy3:=hy2.but hbut3 hne1;clear hc2 hf2 hd2 he2;obtain⟨hc3,hf3⟩:=hx3.rules;obtain⟨hd3,he3⟩:=hy3.rules;have hz3:=hx3.lt;have hzy3:=hy3.lt;have hlt3:=hr3.lt;have hB3:=hB2.trans hbut3;clear hq)|(go_at_call 89;have hq:=hr1;refine(zdn _ r wv l rest 1 (by exact hq.below (by go_grown)) hl (by decide) H1).mono ?_;rintro e w2 ⟨rfl,hr2,hbut2⟩;have hx2:=(hx1.below ((Below.refl _ _).alloc (Nat.le_refl _) _)).but hbut2 hne;have hy2:=(Box.new w1 _ _).but hbut2 hne1;obtain⟨hc2,hf2⟩:=hx2.rules;obtain⟨hd2,he2⟩:=hy2.rules;have hz2:=hx2.lt;have hzy2:=hy2.lt;have hlt2:=hr2.lt;have hB2:=(But.of hB1).trans (((But.refl r w1).alloc _).trans hbut2);clear hq))
 exact bodyPost_ret (v:=.tuple #[.agg #[.bool false,.string t,.slice none 0 0],.bool true]) (by simp[results,Tryz.results88,go_sem,hc3]) rfl ⟨(by repeat'(first|(with_reducible exact But.refl _ _)|(with_reducible assumption)|(with_reducible refine But.drewN ?_ _)|(with_reducible refine But.alloc ?_ _)|(with_reducible refine But.drew ?_)|(with_reducible refine But.setCell ?_ _ _)|(with_reducible refine But.setNew ?_ ?_ _)|go_size)),_,rfl,SIn.nil _,h.keep hr3 (by go_grown)⟩
theorem zzy(w:World)(r:Nat)(wv:Value)(l rest:List Tok)(h:Rd w r wv l rest)(hl:l.length<=500)(h1:hdK rest=1)(h4:hdK rest.tail=4)(h5:zbm rest.tail.tail=none) :
  Calls Tryz.prog 88 #[.pointer (some ⟨r,0,none⟩)] w fun e w'=>zgc none w r wv l e w':=by
 have hlt:=h.lt
 have hne:w.heap.size≠r:=by omega
 obtain⟨t,HT⟩:∃ t,Hid ((rest.headD (0,ByteArray.empty)).2=t):=⟨_,rfl⟩
 have H1:Hid (hdK rest=1):=h1
 have HPK:Hid (∀ W,Rd W r wv l rest->Calls Tryz.prog 116 #[.pointer (some ⟨r,0,none⟩)] W fun e w'=>e=.returned (.agg #[.int .i64 1,.string t])/\Below W.heap.size W w'):=fun W hW=>by
  have:=zh0 W r wv l rest hW hl
  rw[h1,Hid.out HT] at this
  exact this
 have H4:Hid (hdK rest.tail=4):=h4
 have H5:Hid (zbm rest.tail.tail=none):=h5
 clear h1 h4 h5 HT
 go_enter Tryz.func88,Tryz.ntmps88
 go_wp2_with (first|(go_at_call 116;refine(Hid.out HPK _ (by exact h.below (by go_grown))).mono ?_;rintro e w1 ⟨rfl,hb1⟩;have hB1:=zae ((Below.refl _ _).alloc (Nat.le_refl _) _) hb1 (Nat.le_refl _);have hx1:=(Box.new w _ _).below hb1;have hz1:=hx1.lt;have hr1:=h.below hB1;have hlt1:r < w1.heap.size:=(by omega);have hne1:w1.heap.size≠r:=(by omega))|(go_at_call 117;refine(z5e _ r wv l rest.tail.tail hr3 hl H5).mono ?_;rintro e w4 ⟨rfl,hbut4⟩;have hx4:=hx3.but hbut4 hne;have hy4:=hy3.but hbut4 hne1;clear hc3 hf3 hd3 he3;obtain⟨hc4,hf4⟩:=hx4.rules;obtain⟨hd4,he4⟩:=hy4.rules;have hz4:=hx4.lt;have hzy4:=hy4.lt;have hB4:=hB3.trans hbut4)|(go_at_call 89;have hq:=hr2;refine(zdn _ r wv l rest.tail 4 hq hl (by decide) H4).mono ?_;rintro e w3 ⟨rfl,hr3,hbut3⟩;have hx3:=hx2.but hbut3 hne;have hy3:=hy2.but hbut3 hne1;clear hc2 hf2 hd2 he2;obtain⟨hc3,hf3⟩:=hx3.rules;obtain⟨hd3,he3⟩:=hy3.rules;have hz3:=hx3.lt;have hzy3:=hy3.lt;have hlt3:=hr3.lt;have hB3:=hB2.trans hbut3;clear hq)|(go_at_call 89;have hq:=hr1;refine(zdn _ r wv l rest 1 (by exact hq.below (by go_grown)) hl (by decide) H1).mono ?_;rintro e w2 ⟨rfl,hr2,hbut2⟩;have hx2:=(hx1.below ((Below.refl _ _).alloc (Nat.le_refl _) _)).but hbut2 hne;have hy2:=(Box.new w1 _ _).but hbut2 hne1;obtain⟨hc2,hf2⟩:=hx2.rules;obtain⟨hd2,he2⟩:=hy2.rules;have hz2:=hx2.lt;have hzy2:=hy2.lt;have hlt2:=hr2.lt;have hB2:=(But.of hB1).trans (((But.refl r w1).alloc _).trans hbut2);clear hq))
 exact bodyPost_ret (v:=.tuple #[.agg #[.bool false,.string ByteArray.empty,.slice none 0 0],.bool false]) (by simp[results,Tryz.results88,go_sem,hc4];rfl) rfl ⟨(by repeat'(first|(with_reducible exact But.refl _ _)|(with_reducible assumption)|(with_reducible refine But.drewN ?_ _)|(with_reducible refine But.alloc ?_ _)|(with_reducible refine But.drew ?_)|(with_reducible refine But.setCell ?_ _ _)|(with_reducible refine But.setNew ?_ ?_ _)|go_size)),rfl⟩
theorem zum(w:World)(r:Nat)(wv:Value)(l rest r2:List Tok)(ts:List ByteArray)(h:Rd w r wv l rest)(hl:l.length<=500)(h1:hdK rest=1)(h4:hdK rest.tail=4)(h5:zbm rest.tail.tail=some (ts,r2))(h6:hdK r2≠5) :
  Calls Tryz.prog 88 #[.pointer (some ⟨r,0,none⟩)] w fun e w'=>zgc none w r wv l e w':=by
 have hlt:=h.lt
 have hne:w.heap.size≠r:=by omega
 obtain⟨t,HT⟩:∃ t,Hid ((rest.headD (0,ByteArray.empty)).2=t):=⟨_,rfl⟩
 have H1:Hid (hdK rest=1):=h1
 have HPK:Hid (∀ W,Rd W r wv l rest->Calls Tryz.prog 116 #[.pointer (some ⟨r,0,none⟩)] W fun e w'=>e=.returned (.agg #[.int .i64 1,.string t])/\Below W.heap.size W w'):=fun W hW=>by
  have:=zh0 W r wv l rest hW hl
  rw[h1,Hid.out HT] at this
  exact this
 have H4:Hid (hdK rest.tail=4):=h4
 have H5:Hid (zbm rest.tail.tail=some (ts,r2)):=h5
 have H6:Hid (hdK r2≠5):=h6
 clear h1 h4 h5 h6 HT
 go_enter Tryz.func88,Tryz.ntmps88
 go_wp2_with (first|(go_at_call 116;refine(Hid.out HPK _ (by exact h.below (by go_grown))).mono ?_;rintro e w1 ⟨rfl,hb1⟩;have hB1:=zae ((Below.refl _ _).alloc (Nat.le_refl _) _) hb1 (Nat.le_refl _);have hx1:=(Box.new w _ _).below hb1;have hz1:=hx1.lt;have hr1:=h.below hB1;have hlt1:r < w1.heap.size:=(by omega);have hne1:w1.heap.size≠r:=(by omega))|(go_at_call 117;refine(ztv _ r wv l rest.tail.tail r2 ts hr3 hl H5).mono ?_;rintro e w4 ⟨va,rfl,hsin,hr4,hbut4⟩;obtain⟨ao,cp,rfl⟩:=hsin.shape;have hx4:=hx3.but hbut4 hne;have hy4:=hy3.but hbut4 hne1;clear hc3 hf3 hd3 he3;obtain⟨hc4,hf4⟩:=hx4.rules;obtain⟨hd4,he4⟩:=hy4.rules;have hz4:=hx4.lt;have hzy4:=hy4.lt;have hlt4:=hr4.lt;have hB4:=hB3.trans hbut4)|(go_at_call 89;have hq:=hr4;refine(ziy _ r wv l r2 5 hq hl (by decide) H6).mono ?_;rintro e w5 ⟨rfl,hr5,hbut5⟩;have hx5:=hx4.but hbut5 hne;have hy5:=hy4.but hbut5 hne1;clear hc4 hf4 hd4 he4;obtain⟨hc5,hf5⟩:=hx5.rules;obtain⟨hd5,he5⟩:=hy5.rules;have hz5:=hx5.lt;have hzy5:=hy5.lt;have hlt5:=hr5.lt;have hB5:=hB4.trans hbut5;clear hq)|(go_at_call 89;have hq:=hr2;refine(zdn _ r wv l rest.tail 4 hq hl (by decide) H4).mono ?_;rintro e w3 ⟨rfl,hr3,hbut3⟩;have hx3:=hx2.but hbut3 hne;have hy3:=hy2.but hbut3 hne1;clear hc2 hf2 hd2 he2;obtain⟨hc3,hf3⟩:=hx3.rules;obtain⟨hd3,he3⟩:=hy3.rules;have hz3:=hx3.lt;have hzy3:=hy3.lt;have hlt3:=hr3.lt;have hB3:=hB2.trans hbut3;clear hq)|(go_at_call 89;have hq:=hr1;refine(zdn _ r wv l rest 1 (by exact hq.below (by go_grown)) hl (by decide) H1).mono ?_;rintro e w2 ⟨rfl,hr2,hbut2⟩;have hx2:=(hx1.below ((Below.refl _ _).alloc (Nat.le_refl _) _)).but hbut2 hne;have hy2:=(Box.new w1 _ _).but hbut2 hne1;obtain⟨hc2,hf2⟩:=hx2.rules;obtain⟨hd2,he2⟩:=hy2.rules;have hz2:=hx2.lt;have hzy2:=hy2.lt;have hlt2:=hr2.lt;have hB2:=(But.of hB1).trans (((But.refl r w1).alloc _).trans hbut2);clear hq))
 exact bodyPost_ret (v:=.tuple #[.agg #[.bool false,.string ByteArray.empty,.slice none 0 0],.bool false]) (by simp[results,Tryz.results88,go_sem,hc5];rfl) rfl ⟨(by repeat'(first|(with_reducible exact But.refl _ _)|(with_reducible assumption)|(with_reducible refine But.drewN ?_ _)|(with_reducible refine But.alloc ?_ _)|(with_reducible refine But.drew ?_)|(with_reducible refine But.setCell ?_ _ _)|(with_reducible refine But.setNew ?_ ?_ _)|go_size)),rfl⟩
theorem zxm(w:World)(r:Nat)(wv:Value)(l rest r2:List Tok)(ts:List ByteArray)(h:Rd w r wv l rest)(hl:l.length<=500)(h1:hdK rest=1)(h4:hdK rest.tail=4)(h5:zbm rest.tail.tail=some (ts,r2))(h6:hdK r2=5) :
  Calls Tryz.prog 88 #[.pointer (some ⟨r,0,none⟩)] w fun e w'=>zgc (some (⟨false,(rest.headD (0,ByteArray.empty)).2,ts⟩,r2.tail)) w r wv l e w':=by
 have hlt:=h.lt
 have hne:w.heap.size≠r:=by omega
 generalize ht:(rest.headD (0,ByteArray.empty)).2=t
 have HT:Hid ((rest.headD (0,ByteArray.empty)).2=t):=ht
 clear ht
 have H1:Hid (hdK rest=1):=h1
 have HPK:Hid (∀ W,Rd W r wv l rest->Calls Tryz.prog 116 #[.pointer (some ⟨r,0,none⟩)] W fun e w'=>e=.returned (.agg #[.int .i64 1,.string t])/\Below W.heap.size W w'):=fun W hW=>by
  have:=zh0 W r wv l rest hW hl
  rw[h1,Hid.out HT] at this
  exact this
 have H4:Hid (hdK rest.tail=4):=h4
 have H5:Hid (zbm rest.tail.tail=some (ts,r2)):=h5
 have H6:Hid (hdK r2=5):=h6
 clear h1 h4 h5 h6 HT
 go_enter Tryz.func88,Tryz.ntmps88
 go_wp2_with (first|(go_at_call 116;refine(Hid.out HPK _ (by exact h.below (by go_grown))).mono ?_;rintro e w1 ⟨rfl,hb1⟩;have hB1:=zae ((Below.refl _ _).alloc (Nat.le_refl _) _) hb1 (Nat.le_refl _);have hx1:=(Box.new w _ _).below hb1;have hz1:=hx1.lt;have hr1:=h.below hB1;have hlt1:r < w1.heap.size:=(by omega);have hne1:w1.heap.size≠r:=(by omega))|(go_at_call 117;refine(ztv _ r wv l rest.tail.tail r2 ts hr3 hl H5).mono ?_;rintro e w4 ⟨va,rfl,hsin,hr4,hbut4⟩;obtain⟨ao,cp,rfl⟩:=hsin.shape;have hx4:=hx3.but hbut4 hne;have hy4:=hy3.but hbut4 hne1;clear hc3 hf3 hd3 he3;obtain⟨hc4,hf4⟩:=hx4.rules;obtain⟨hd4,he4⟩:=hy4.rules;have hz4:=hx4.lt;have hzy4:=hy4.lt;have hlt4:=hr4.lt;have hB4:=hB3.trans hbut4)|(go_at_call 89;have hq:=hr4;refine(zdn _ r wv l r2 5 hq hl (by decide) H6).mono ?_;rintro e w5 ⟨rfl,hr5,hbut5⟩;have hx5:=hx4.but hbut5 hne;have hy5:=hy4.but hbut5 hne1;clear hc4 hf4 hd4 he4;obtain⟨hc5,hf5⟩:=hx5.rules;obtain⟨hd5,he5⟩:=hy5.rules;have hz5:=hx5.lt;have hzy5:=hy5.lt;have hlt5:=hr5.lt;have hB5:=hB4.trans hbut5;clear hq)|(go_at_call 89;have hq:=hr2;refine(zdn _ r wv l rest.tail 4 hq hl (by decide) H4).mono ?_;rintro e w3 ⟨rfl,hr3,hbut3⟩;have hx3:=hx2.but hbut3 hne;have hy3:=hy2.but hbut3 hne1;clear hc2 hf2 hd2 he2;obtain⟨hc3,hf3⟩:=hx3.rules;obtain⟨hd3,he3⟩:=hy3.rules;have hz3:=hx3.lt;have hzy3:=hy3.lt;have hlt3:=hr3.lt;have hB3:=hB2.trans hbut3;clear hq)|(go_at_call 89;have hq:=hr1;refine(zdn _ r wv l rest 1 (by exact hq.below (by go_grown)) hl (by decide) H1).mono ?_;rintro e w2 ⟨rfl,hr2,hbut2⟩;have hx2:=(hx1.below ((Below.refl _ _).alloc (Nat.le_refl _) _)).but hbut2 hne;have hy2:=(Box.new w1 _ _).but hbut2 hne1;obtain⟨hc2,hf2⟩:=hx2.rules;obtain⟨hd2,he2⟩:=hy2.rules;have hz2:=hx2.lt;have hzy2:=hy2.lt;have hlt2:=hr2.lt;have hB2:=(But.of hB1).trans (((But.refl r w1).alloc _).trans hbut2);clear hq))
 obtain⟨c4,f4,hcl⟩:=hr4.cell
 have hs5:=hsin.but hbut5 hcl (by decide)
 exact bodyPost_ret (v:=.tuple #[.agg #[.bool false,.string t,.slice ao ts.length cp],.bool true]) (by simp[results,Tryz.results88,go_sem,hc5]) rfl ⟨(by repeat'(first|(with_reducible exact But.refl _ _)|(with_reducible assumption)|(with_reducible refine But.drewN ?_ _)|(with_reducible refine But.alloc ?_ _)|(with_reducible refine But.drew ?_)|(with_reducible refine But.setCell ?_ _ _)|(with_reducible refine But.setNew ?_ ?_ _)|go_size)),_,rfl,(hs5.low hB3.size).but (r:=w.heap.size) (by repeat'(first|(with_reducible exact But.refl _ _)|(with_reducible assumption)|(with_reducible refine But.drewN ?_ _)|(with_reducible refine But.alloc ?_ _)|(with_reducible refine But.drew ?_)|(with_reducible refine But.setCell ?_ _ _)|(with_reducible refine But.setNew ?_ ?_ _)|go_size)) hx5 (by decide),h.keep hr5 (by go_grown)⟩
theorem zwc(w:World)(r:Nat)(wv:Value)(l rest:List Tok)(h:Rd w r wv l rest)(hl:l.length<=500) :
  Calls Tryz.prog 88 #[.pointer (some ⟨r,0,none⟩)] w fun e w'=>zgc (zd9 rest) w r wv l e w':=by
 unfold zd9
 split
 ·rename_i h1
  split
  ·rename_i h4
   split
   ·rename_i h5;exact zzy w r wv l rest h hl h1 h4 h5
   ·rename_i ts r2 h5
    split
    ·rename_i h6;exact zxm w r wv l rest r2 ts h hl h1 h4 h5 h6
    ·rename_i h6;exact zum w r wv l rest r2 ts h hl h1 h4 h5 h6
  ·rename_i h4;exact zzx w r wv l rest h hl h1 h4
 ·rename_i h1;exact z5x w r wv l rest h hl (by simpa using h1)
theorem zrr(w:World)(r:Nat)(wv:Value)(l rest:List Tok)(h:Rd w r wv l rest)(hl:l.length<=500)(hp:zd9 rest=none) :
  Calls Tryz.prog 88 #[.pointer (some ⟨r,0,none⟩)] w fun e w'=>e=.returned (.tuple #[.agg #[.bool false,.string ByteArray.empty,.slice none 0 0],.bool false])/\But r w w':=by
 refine(zwc w r wv l rest h hl).mono ?_
 rintro e w' ⟨h1,h2⟩
 rw[hp] at h2
 exact⟨h2,h1⟩
theorem zhj(w:World)(r:Nat)(wv:Value)(l rest r2:List Tok)(a:zbv)(h:Rd w r wv l rest)(hl:l.length<=500)(hp:zd9 rest=some (a,r2)) :
  Calls Tryz.prog 88 #[.pointer (some ⟨r,0,none⟩)] w fun e w'=>∃ va,e=.returned (.tuple #[.agg #[.bool a.neg,.string a.pred,va],.bool true])/\SIn w.heap.size w' va a.args/\Rd w' r wv l r2/\But r w w':=by
 refine(zwc w r wv l rest h hl).mono ?_
 rintro e w' ⟨h1,h2⟩
 rw[hp] at h2
 obtain⟨v,a,b,c⟩:=h2
 exact⟨v,a,b,c,h1⟩
theorem zph(b:Bool)(w:World)(r:Nat)(wv:Value)(l rest rest1:List Tok)(h:Rd w r wv l rest)(hl:l.length<=500)
  (htk:∀ W,Rd W r wv l rest->Calls Tryz.prog 89 #[.pointer (some ⟨r,0,none⟩),.int .i64 8] W fun e w'=>e=.returned (.bool b)/\Rd w' r wv l rest1/\But r W w') (ha:zd9 rest1=none) :
  Calls Tryz.prog 118 #[.pointer (some ⟨r,0,none⟩)] w fun e w'=>zgc none w r wv l e w':=by
 have hlt:=h.lt
 have hne:w.heap.size≠r:=by omega
 have HTK:Hid (∀ W,Rd W r wv l rest->Calls Tryz.prog 89 #[.pointer (some ⟨r,0,none⟩),.int .i64 8] W fun e w'=>e=.returned (.bool b)/\Rd w' r wv l rest1/\But r W w'):=htk
 clear htk
 have HA:Hid (zd9 rest1=none):=ha
 clear ha
 go_enter Tryz.func118,Tryz.ntmps118
 go_wp2_with (first|(go_at_call 89;refine(Hid.out HTK _ (by exact h.below (by go_grown))).mono ?_;rintro e w1 ⟨rfl,hr1,hbut1⟩;have hx1:=(Box.new w _ _).but hbut1 hne;have hz1:=hx1.lt;have hlt1:=hr1.lt;have hB1:=((But.refl r w).alloc _).trans hbut1)|(go_at_call 88;refine(zrr _ r wv l rest1 hr1 hl HA).mono ?_;rintro e w2 ⟨rfl,hbut2⟩;have hx2:=hx1.but hbut2 hne;obtain⟨hc2,hf2⟩:=hx2.rules;have hz2:=hx2.lt;have hB2:=hB1.trans hbut2))
 exact bodyPost_ret (v:=.tuple #[.agg #[.bool false,.string ByteArray.empty,.slice none 0 0],.bool false]) (by simp[results,Tryz.results118,go_sem,hc2,hz2];rfl) rfl ⟨(by repeat'(first|(with_reducible exact But.refl _ _)|(with_reducible assumption)|(with_reducible refine But.drewN ?_ _)|(with_reducible refine But.alloc ?_ _)|(with_reducible refine But.drew ?_)|(with_reducible refine But.setCell ?_ _ _)|(with_reducible refine But.setNew ?_ ?_ _)|go_size)),rfl⟩
theorem znk(b:Bool)(w:World)(r:Nat)(wv:Value)(l rest rest1 r2:List Tok)(a:zbv)(h:Rd w r wv l rest)(hl:l.length<=500)
  (htk:∀ W,Rd W r wv l rest->Calls Tryz.prog 89 #[.pointer (some ⟨r,0,none⟩),.int .i64 8] W fun e w'=>e=.returned (.bool b)/\Rd w' r wv l rest1/\But r W w') (ha:zd9 rest1=some (a,r2)) :
  Calls Tryz.prog 118 #[.pointer (some ⟨r,0,none⟩)] w fun e w'=>zgc (some ({ a with neg:=b },r2)) w r wv l e w':=by
 have hlt:=h.lt
 have hne:w.heap.size≠r:=by omega
 have HTK:Hid (∀ W,Rd W r wv l rest->Calls Tryz.prog 89 #[.pointer (some ⟨r,0,none⟩),.int .i64 8] W fun e w'=>e=.returned (.bool b)/\Rd w' r wv l rest1/\But r W w'):=htk
 clear htk
 have HA:Hid (zd9 rest1=some (a,r2)):=ha
 clear ha
 go_enter Tryz.func118,Tryz.ntmps118
 go_wp2_with (first|(go_at_call 89;refine(Hid.out HTK _ (by exact h.below (by go_grown))).mono ?_;rintro e w1 ⟨rfl,hr1,hbut1⟩;have hx1:=(Box.new w _ _).but hbut1 hne;have hz1:=hx1.lt;have hlt1:=hr1.lt;have hB1:=((But.refl r w).alloc _).trans hbut1)|(go_at_call 88;refine(zhj _ r wv l rest1 r2 a hr1 hl HA).mono ?_;rintro e w2 ⟨va,rfl,hsin,hr2,hbut2⟩;obtain⟨ao,cp,rfl⟩:=hsin.shape;have hx2:=hx1.but hbut2 hne;obtain⟨hc2,hf2⟩:=hx2.rules;have hz2:=hx2.lt;have hB2:=hB1.trans hbut2))
 exact bodyPost_ret (v:=.tuple #[.agg #[.bool b,.string a.pred,.slice ao a.args.length cp],.bool true]) (by simp[results,Tryz.results118,go_sem,hc2,hz2]) rfl ⟨(by repeat'(first|(with_reducible exact But.refl _ _)|(with_reducible assumption)|(with_reducible refine But.drewN ?_ _)|(with_reducible refine But.alloc ?_ _)|(with_reducible refine But.drew ?_)|(with_reducible refine But.setCell ?_ _ _)|(with_reducible refine But.setNew ?_ ?_ _)|go_size)),_,rfl,(hsin.low hB1.size).but (r:=w.heap.size) (by repeat'(first|(with_reducible exact But.refl _ _)|(with_reducible assumption)|(with_reducible refine But.drewN ?_ _)|(with_reducible refine But.alloc ?_ _)|(with_reducible refine But.drew ?_)|(with_reducible refine But.setCell ?_ _ _)|(with_reducible refine But.setNew ?_ ?_ _)|go_size)) hx2 (by decide),h.keep hr2 (by go_grown)⟩
theorem z1p{rest r2:List Tok}{a:zbv}(h:zd9 rest=some (a,r2)):a.neg=false:=by
 unfold zd9 at h
 (repeat' split at h) <;> first|(cases h;done)|(simp at h;obtain⟨rfl,_⟩:=h;rfl)
theorem znj(w:World)(r:Nat)(wv:Value)(l rest:List Tok)(h:Rd w r wv l rest)(hl:l.length<=500) :
  Calls Tryz.prog 118 #[.pointer (some ⟨r,0,none⟩)] w fun e w'=>zgc (zri rest) w r wv l e w':=by
 unfold zri
 split
 ·rename_i h8
  cases ha:zd9 rest.tail with
  |none=>exact zph true w r wv l rest rest.tail h hl (fun W hW=>zdn W r wv l rest 8 hW hl (by decide) h8) ha
  |some z=>obtain⟨a,r2⟩:=z;exact znk true w r wv l rest rest.tail r2 a h hl (fun W hW=>zdn W r wv l rest 8 hW hl (by decide) h8) ha
 ·rename_i h8
  cases ha:zd9 rest with
  |none=>exact zph false w r wv l rest rest h hl (fun W hW=>ziy W r wv l rest 8 hW hl (by decide) h8) ha
  |some z =>
   obtain⟨a,r2⟩:=z
   have:=znk false w r wv l rest rest r2 a h hl (fun W hW=>ziy W r wv l rest 8 hW hl (by decide) h8) ha
   rwa [show({ a with neg:=false }:zbv)=a by rw[← z1p ha]] at this
theorem zi2{wO w2:World}{b b2:Nat}{e e2:TypeId}{s s2:Nat}{v v2:Value}{n n2:Nat}{xs xs2:List Value}(hv:wO.ownsRow b e s v n xs)(hne:e≠e2)(h:wO.ownsRow b2 e2 s2 v2 n2 xs2)
  (hk:∀ k,k < wO.heap.size->some k≠v.ownBlock->w2.heap[k]?=wO.heap[k]?):w2.ownsRow b2 e2 s2 v2 n2 xs2:=by
 obtain⟨h1,h2⟩:=h
 refine⟨h1,?_⟩
 rcases h2 with h2|⟨g,cap,cur,hv2,hg,hh,rr⟩
 ·exact Or.inl h2
 ·refine Or.inr ⟨g,cap,cur,hv2,hg,?_,rr⟩
  rw[hk g (Array.getElem?_eq_some_iff.1 hh).1 ?_]
  ·exact hh
  ·intro he
   obtain⟨_,⟨hv0,_⟩|⟨g',cap',cur',hv',_,hh',_⟩⟩:=hv
   ·subst hv0;cases he
   ·subst hv';simp only[Value.ownBlock,Option.some.injEq] at he;subst he;rw[hh] at hh';simp at hh';exact hne hh'.2.symm
def zcl(lo:Nat)(w:World):List zbv->List Value->Prop
 |[],xs=>xs=[]
 |a::ls,xs=>∃ va r,xs=.bool a.neg::.string a.pred::va::r/\SIn lo w va a.args/\zcl lo w ls r
theorem zcl.snoc{w:World}{a:zbv}{va:Value}(hs:SIn lo w va a.args):∀ {ls:List zbv} {xs:List Value},zcl lo w ls xs->zcl lo w (ls++[a]) (xs++[.bool a.neg,.string a.pred,va])
 |[],_,h=>by simp only[zcl] at h;subst h;exact⟨va,[],rfl,hs,rfl⟩
 |_::ls,_,h=>by obtain⟨v,r,rfl,h1,h2⟩:=h;exact⟨v,r++[.bool a.neg,.string a.pred,va],rfl,h1,zcl.snoc hs h2⟩
theorem zcl.mono{w w':World}(hm:∀ va l,SIn lo w va l->SIn lo w' va l):∀ {ls:List zbv} {xs:List Value},zcl lo w ls xs->zcl lo w' ls xs
 |[],_,h=>h
 |_::ls,_,h=>by obtain⟨v,r,rfl,h1,h2⟩:=h;exact⟨v,r,rfl,hm _ _ h1,zcl.mono hm h2⟩
theorem zcl.at{w:World}:∀ {ls:List zbv} {xs:List Value} (i:Nat) (a:zbv),zcl lo w ls xs->ls[i]?=some a->∃ va,xs[i * 3]?=some (.bool a.neg)/\xs[i * 3+1]?=some (.string a.pred)/\xs[i * 3+2]?=some va/\SIn lo w va a.args
 |[],_,i,a,_,hi=>by simp at hi
 |_::ls,_,0,a,h,hi=>by obtain⟨v,r,rfl,h1,h2⟩:=h;simp at hi;subst hi;exact⟨v,rfl,rfl,rfl,h1⟩
 |_::ls,_,i+1,a,h,hi=>by
  obtain⟨v,r,rfl,h1,h2⟩:=h
  obtain⟨va,a1,a2,a3,a4⟩:=zcl.at i a h2 (by simpa using hi)
  refine⟨va,?_,?_,?_,a4⟩
  ·rw[show(i+1) * 3=i * 3+1+1+1 from by omega];simpa using a1
  ·rw[show(i+1) * 3+1=i * 3+1+1+1+1 from by omega];simpa using a2
  ·rw[show(i+1) * 3+2=i * 3+2+1+1+1 from by omega];simpa using a3
def LIn(lo:Nat)(w:World)(v:Value)(ls:List zbv):Prop:=∃ xs,w.ownsRow lo 45 3 v ls.length xs/\zcl lo w ls xs
theorem zcl.low{a b:Nat}{w:World}(hab:a<=b):∀ {ls:List zbv} {xs:List Value},zcl b w ls xs->zcl a w ls xs
 |[],_,h=>h
 |_::ls,_,h=>by obtain⟨v,r,rfl,h1,h2⟩:=h;exact⟨v,r,rfl,h1.low hab,zcl.low hab h2⟩
theorem LIn.low{a b:Nat}{w:World}{v:Value}{l:List zbv}(h:LIn b w v l)(hab:a<=b):LIn a w v l:=by obtain⟨xs,h,hc⟩:=h;exact⟨xs,zbb h hab,hc.low hab⟩
theorem LIn.nil(w:World):LIn lo w (.slice none 0 0) []:=⟨[],World.ownsRow_nil _ _ _ _,rfl⟩
theorem LIn.shape{w:World}{v:Value}{l:List zbv}(h:LIn lo w v l):∃ ao cap,v=.slice ao l.length cap:=by obtain⟨xs,h,_⟩:=h;exact zab h
theorem LIn.below{w w':World}{v:Value}{l:List zbv}(h:LIn lo w v l)(hb:Below w.heap.size w w'):LIn lo w' v l:=by
 obtain⟨xs,h,hc⟩:=h;exact⟨xs,zaa h hb,hc.mono fun _ _ k=>k.below hb⟩
theorem LIn.but{r:Nat}{w w':World}{v:Value}{l:List zbv}(h:LIn lo w v l)(hb:But r w w'){c:Array Value}{T:TypeId}{f:Nat × Nat}(hr:w.heap[r]?=some (.cells c T f))(hT:T≠9)(hT2:T≠45):LIn lo w' v l:=by
 obtain⟨xs,h,hc⟩:=h;exact⟨xs,zb4 h hb hr hT2,hc.mono fun _ _ k=>k.but hb hr hT⟩
def zew:Nat->List Tok->Option (List zbv × List Tok)
 |0,_=>none
 |n+1,r=>match zri r with
  |none=>none
  |some (a,r2)=>if hdK r2=6 then(zew n r2.tail).map fun z=>(a::z.1,z.2) else some ([a],r2)
theorem zqy{n:Nat}{r:List Tok}(h:zri r=none):zew (n+1) r=none:=by simp[zew,h]
theorem zlm{n:Nat}{r r2:List Tok}{a:zbv}(h:zri r=some (a,r2))(h6:hdK r2=6):zew (n+1) r=(zew n r2.tail).map fun z=>(a::z.1,z.2):=by simp[zew,h,h6]
theorem zln{n:Nat}{r r2:List Tok}{a:zbv}(h:zri r=some (a,r2))(h6:hdK r2≠6):zew (n+1) r=some ([a],r2):=by simp[zew,h,h6]
theorem zpp:∀(r:List Tok) {ts:List ByteArray} {r2:List Tok},zbm r=some (ts,r2)->r2.length < r.length
 |[],_,_,h=>by simp[zbm] at h
 |[x],ts,r2,h=>by
  simp only[zbm] at h
  split at h <;> simp at h
  obtain⟨_,rfl⟩:=h;simp
 |x::y::r,ts,r2,h=>by
  simp only[zbm] at h
  split at h
  ·split at h
   ·cases hq:zbm r with
    |none=>rw[hq] at h;simp at h
    |some z =>
     obtain⟨ts',r'⟩:=z
     rw[hq] at h;simp at h
     have:=zpp r hq
     obtain⟨_,rfl⟩:=h;simp;omega
   ·simp at h;obtain⟨_,rfl⟩:=h;simp
  ·simp at h
theorem zkx{r r2:List Tok}{a:zbv}(h:zd9 r=some (a,r2)):r2.length < r.length:=by
 cases r with
 |nil=>simp[zd9,hdK] at h
 |cons x r =>
  unfold zd9 at h
  split at h
  ·split at h
   ·split at h
    ·simp at h
    ·rename_i ts r3 hq
     have:=zpp _ hq
     split at h <;> simp at h
     obtain⟨_,rfl⟩:=h;simp at this ⊢;omega
   ·simp at h;obtain⟨_,rfl⟩:=h;simp
  ·simp at h
theorem zwy{r r2:List Tok}{a:zbv}(h:zri r=some (a,r2)):r2.length < r.length:=by
 unfold zri at h
 split at h
 ·cases hq:zd9 r.tail with
  |none=>rw[hq] at h;simp at h
  |some z =>
   obtain⟨a',r'⟩:=z
   rw[hq] at h;simp at h
   have:=zkx hq
   obtain⟨_,rfl⟩:=h;simp at this;omega
 ·exact zkx h
theorem z4d(w:World)(r:Nat)(wv:Value)(l rest:List Tok)(h:Rd w r wv l rest)(hl:l.length<=500)(hp:zri rest=none) :
  Calls Tryz.prog 118 #[.pointer (some ⟨r,0,none⟩)] w fun e w'=>e=.returned (.tuple #[.agg #[.bool false,.string ByteArray.empty,.slice none 0 0],.bool false])/\But r w w':=by
 refine(znj w r wv l rest h hl).mono ?_
 rintro e w' ⟨h1,h2⟩
 rw[hp] at h2
 exact⟨h2,h1⟩
theorem z4e(w:World)(r:Nat)(wv:Value)(l rest r2:List Tok)(a:zbv)(h:Rd w r wv l rest)(hl:l.length<=500)(hp:zri rest=some (a,r2)) :
  Calls Tryz.prog 118 #[.pointer (some ⟨r,0,none⟩)] w fun e w'=>∃ va,e=.returned (.tuple #[.agg #[.bool a.neg,.string a.pred,va],.bool true])/\SIn w.heap.size w' va a.args/\Rd w' r wv l r2/\But r w w':=by
 refine(znj w r wv l rest h hl).mono ?_
 rintro e w' ⟨h1,h2⟩
 rw[hp] at h2
 obtain⟨v,a,b,c⟩:=h2
 exact⟨v,a,b,c,h1⟩
theorem Tryz.infoLit:(Tryz.prog.info? 45).map (fun i=>(i.zero,i.size,i.bytes))=some (some (.agg #[.bool false,.string ByteArray.empty,.slice none 0 0]),3,48):=by kernel_rfl
def zqc(o:Option (List zbv × List Tok))(w:World)(r:Nat)(wv:Value)(l:List Tok)(e:Ending)(w':World):Prop :=
 But r w w'/\match o with
  |none=>e=.returned (.tuple #[.slice none 0 0,.bool false])
  |some (ls,r2)=>∃ v,e=.returned (.tuple #[v,.bool true])/\LIn w.heap.size w' v ls/\Rd w' r wv l r2
theorem zuo{o:Option (List zbv × List Tok)}{w w':World}{r:Nat}{wv:Value}{l:List Tok}(h:Hid (o=none))(hb:But r w w'):zqc o w r wv l (.returned (.tuple #[.slice none 0 0,.bool false])) w':=by
 have h':o=none:=h
 subst h';exact⟨hb,rfl⟩
theorem zrx{o:Option (List zbv × List Tok)}{w w':World}{r:Nat}{wv v:Value}{l r2:List Tok}{ls:List zbv}(h:Hid (o=some (ls,r2)))(hb:But r w w')(hs:LIn w.heap.size w' v ls)(hr:Rd w' r wv l r2) :
  zqc o w r wv l (.returned (.tuple #[v,.bool true])) w':=by
 have h':o=some (ls,r2):=h
 subst h';exact⟨hb,v,rfl,hs,hr⟩
theorem zwf(w:World)(r:Nat)(wv:Value)(l rest:List Tok)(h:Rd w r wv l rest)(hl:l.length<=500)(n0:Nat)(hn0:rest.length < n0) :
  Calls Tryz.prog 90 #[.pointer (some ⟨r,0,none⟩)] w fun e w'=>zqc (zew n0 rest) w r wv l e w':=by
 obtain⟨i0,hi,hz0,hzs,hzb⟩:=info_parts Tryz.infoLit
 have hlt:=h.lt
 go_enter Tryz.func90,Tryz.ntmps90
 go_wp2
 go_loopg [4,5] (rest.length) (fun n v t wr=>∃(acc:List zbv) (rst:List Tok) (more:Bool) (m:Nat) (xs:List Value),t=.bool more/\rst.length<=n/\rst.length < m/\rst.length+acc.length<=rest.length ∧
   wr.ownsRow w.heap.size 45 3 v acc.length xs/\zcl w.heap.size wr acc xs/\Rd wr r wv l rst/\But r w wr ∧
   Hid (more=true->zew n0 rest=(zew m rst).map fun z=>(acc++z.1,z.2))/\Hid (more=false->zew n0 rest=some (acc,rst)))
 case atStart=>exact⟨[],rest,true,n0,[],rfl,Nat.le_refl _,hn0,by simp,World.ownsRow_nil _ _ _ _,rfl,h,But.refl _ _,(fun _=>by simp),(fun h=>by cases h)⟩
 case round =>
  obtain⟨acc,rst,more,m,xs,rfl,hn,hm,hra,hown,hlc,hrd,hbut,H1,H2⟩:=hrel
  have hrl:rest.length<=l.length:=by
   obtain⟨p,_,hp,_⟩:=h.box;rw[hp];simp
  have hws:=hbut.size
  obtain⟨c0,f0,hcell⟩:=hrd.cell
  cases more with
  |false =>
   have H3:Hid (zew n0 rest=some (acc,rst)):=H2 rfl
   clear H1 H2
   go_wp2
   go_ret2
   exact zrx H3 hbut ⟨_,hown,hlc⟩ hrd
  |true =>
   obtain⟨m,rfl⟩:∃ m',m=m'+1:=⟨m - 1,by omega⟩
   have HC:Hid (wr.heap[r]?=some (.cells c0 132 f0)):=hcell
   cases hL:zri rst with
   |none =>
    have H3:Hid (zew n0 rest=none):=by rw[Hid.out H1 rfl,zqy hL];simp[Hid]
    have HL:Hid (zri rst=none):=hL
    clear H1 H2 hL
    go_wp2_with (first|(go_at_call 118;refine(z4d _ r wv l rst hrd hl HL).mono ?_;rintro e w1 ⟨rfl,hbut1⟩;have hB1:=hbut.trans hbut1;have hz1:=hB1.size))
    go_ret2
    exact zuo H3 (by repeat'(first|(with_reducible exact But.refl _ _)|(with_reducible assumption)|(with_reducible refine But.drewN ?_ _)|(with_reducible refine But.alloc ?_ _)|(with_reducible refine But.drew ?_)|(with_reducible refine But.setCell ?_ _ _)|(with_reducible refine But.setNew ?_ ?_ _)|go_size))
   |some z =>
    obtain⟨a,r2⟩:=z
    have HL:Hid (zri rst=some (a,r2)):=hL
    have hll:=zwy hL
    have H3:Hid (zew n0 rest=(zew (m+1) rst).map fun z=>(acc++z.1,z.2)):=H1 rfl
    clear H1 H2 hL
    go_wp2_with (first|(go_at_call 118;refine(z4e _ r wv l rst r2 a hrd hl HL).mono ?_;rintro e w1 ⟨va,rfl,hsin,hr1,hbut1⟩;obtain⟨ao,cp,rfl⟩:=hsin.shape;have hB1:=hbut.trans hbut1;have hz1:=hB1.size;have ho1:=zb4 hown hbut1 hcell (by decide);have hlc1:=hlc.mono fun _ _ k=>k.but hbut1 hcell (by decide))|(at_builtin;refine zgw w1 _ _ _ rfl (.tmp 16) (.tmp 18) 41 rfl w.heap.size 45 i0 _ 3 48 Tryz.underlying41 hi hz0 hzs hzb rfl (by decide) _ _ _ rfl ho1 ((Below.refl _ _).alloc (Nat.le_refl _) _) _ _ rfl (by simp) rfl (by simp[Value.oneCell']) (by omega) (by omega) (by omega) ?_;intro v' w2 ho2 hB2 hc2 hf2 hk2 hz2';clear hc2 hf2;have hrd2:=Rd.keep h hr1 hB2;have hbut2:=hB1.onto hB2;have hs2:SIn w.heap.size w2 (Value.slice ao a.args.length cp) a.args:=zbb (zi2 ho1 (by decide) hsin hk2) hws;have hlc2:=hlc1.mono fun _ _ k=>zi2 ho1 (by decide) k hk2;have htk:=take_any w2 r wv l r2 6 hrd2 hl (by decide))|(go_at_call 89;refine htk.mono ?_;rintro e w3 ⟨rfl,hrd3,hbut3⟩;clear htk))
    obtain⟨c3,f3,hcell3⟩:=hrd2.cell
    have ho3:=zb4 ho2 hbut3 hcell3 (by decide)
    have hs3:=hs2.but hbut3 hcell3 (by decide)
    have hlc3:=hlc2.mono fun _ _ k=>k.but hbut3 hcell3 (by decide)
    have htl:(if hdK r2=6 then r2.tail else r2).length<=r2.length:=by split <;> simp
    have hll2:zri rst=some (a,r2):=HL
    go_roundg r2.length
    case measure=>omega
    case rel =>
     refine⟨acc++[a],(if hdK r2=6 then r2.tail else r2),(hdK r2 == 6),m,_,rfl,htl,by omega,by simp;omega,by rw[List.length_append];exact ho3,hlc3.snoc hs3,hrd3,hbut2.trans hbut3,?_,?_⟩
     ·intro h6
      have h6':hdK r2=6:=by simpa using h6
      rw[if_pos h6',Hid.out H3,zlm hll2 h6',zs5]
     ·intro h6
      have h6':hdK r2≠6:=by simpa using h6
      rw[if_neg h6',Hid.out H3,zln hll2 h6'];simp
end Go.Proofs.YteampbddflhngabGreat
