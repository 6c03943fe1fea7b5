import Derived.Test.YteampbddflhngabGreatB02

namespace Go.Proofs.YteampbddflhngabGreat
set_option maxRecDepth 100000
set_option maxHeartbeats 1000000
open Go.RowKit
variable {lo:Nat}
def zgr(o:Option (zb2 × List Tok))(w:World)(r:Nat)(wv:Value)(l:List Tok)(e:Ending)(w':World):Prop :=
 But r w w'/\match o with
  |none=>e=.returned (.tuple #[.agg #[.bool false,.string ByteArray.empty,.slice none 0 0],.bool false])
  |some (a,r2)=>∃ va,e=.returned (.tuple #[.agg #[.bool a.neg,.string a.pred,va],.bool true])/\SIn w.heap.size w' va a.args/\Rd w' r wv l r2
theorem yad(w:World)(r:Nat)(wv:Value)(l rest:List Tok)(h:Rd w r wv l rest)(hl:l.length<=500)(h1:(hdK rest == 1)=false) :
  Calls Tryz.prog 88 #[.pointer (some ⟨r,0,none⟩)] w fun e w'=>zgr none w r wv l e w':=by
 have hlt:=h.lt
 have hne:w.heap.size≠r:=by omega
 go_enter Tryz.func88,Tryz.ntmps88
 go_wp2_with (first|(go_at_call 116;refine(zif _ r wv l rest (by exact h.below (by repeat'(first|with_reducible(first|exact zR _ _|assumption|refine zN ?_ _|refine zA ?_ ?_ _|refine zD ?_|refine zS ?_ ?_ _)|go_size))) hl).mono ?_;rintro e w1 ⟨rfl,hb1⟩;have hB1:=zad ((Below.refl _ _).alloc (Nat.le_refl _) _) hb1 (Nat.le_refl _);have hx1:=(Box.new w _ _).below hb1;have hr1:=h.below hB1)|(go_at_call 89;refine(take_any _ r wv l rest 1 (by exact hr1.below (by repeat'(first|with_reducible(first|exact zR _ _|assumption|refine zN ?_ _|refine zA ?_ ?_ _|refine zD ?_|refine zS ?_ ?_ _)|go_size))) hl (by decide)).mono ?_;rintro e w2 ⟨rfl,hrd2,hbut2⟩;have hx2:=(hx1.below ((Below.refl _ _).alloc (Nat.le_refl _) _)).but hbut2 hne;obtain⟨hc2,hf2⟩:=hx2.rules))
 have hB:=(But.of hB1).trans (((But.refl r w1).alloc _).trans hbut2)
 exact bodyPost_ret (v:=.tuple #[.agg #[.bool false,.string ByteArray.empty,.slice none 0 0],.bool false]) (by simp[results,Tryz.results88,go_sem,hc2];rfl) rfl ⟨(by repeat'(first|(with_reducible exact But.refl _ _)|(with_reducible assumption)|(with_reducible refine But.drewN ?_ _)|(with_reducible refine But.alloc ?_ _)|(with_reducible refine But.drew ?_)|(with_reducible refine But.setCell ?_ _ _)|(with_reducible refine But.setNew ?_ ?_ _)|go_size)),rfl⟩
theorem z3m(w:World)(r:Nat)(wv:Value)(l rest:List Tok)(h:Rd w r wv l rest)(hl:l.length<=500)(h1:hdK rest=1)(h4:hdK rest.tail≠4) :
  Calls Tryz.prog 88 #[.pointer (some ⟨r,0,none⟩)] w fun e w'=>zgr (some (⟨false,(rest.headD (0,ByteArray.empty)).2,[]⟩,rest.tail)) w r wv l e w':=by
 have hlt:=h.lt
 have hne:w.heap.size≠r:=by omega
 generalize ht:(rest.headD (0,ByteArray.empty)).2=t
 have HT:Hid ((rest.headD (0,ByteArray.empty)).2=t):=ht
 clear ht
 have H1:Hid (hdK rest=1):=h1
 have HPK:Hid (∀ W,Rd W r wv l rest->Calls Tryz.prog 116 #[.pointer (some ⟨r,0,none⟩)] W fun e w'=>e=.returned (.agg #[.int .i64 1,.string t])/\Below W.heap.size W w'):=fun W hW=>by
  have:=zif W r wv l rest hW hl
  rw[h1,Hid.out HT] at this
  exact this
 have H4:Hid (hdK rest.tail≠4):=h4
 clear h1 h4 HT
 go_enter Tryz.func88,Tryz.ntmps88
 go_wp2_with (first|(go_at_call 116;refine(Hid.out HPK _ (by exact h.below (by repeat'(first|with_reducible(first|exact zR _ _|assumption|refine zN ?_ _|refine zA ?_ ?_ _|refine zD ?_|refine zS ?_ ?_ _)|go_size)))).mono ?_;rintro e w1 ⟨rfl,hb1⟩;have hB1:=zad ((Below.refl _ _).alloc (Nat.le_refl _) _) hb1 (Nat.le_refl _);have hx1:=(Box.new w _ _).below hb1;have hz1:=hx1.lt;have hr1:=h.below hB1;have hlt1:r < w1.heap.size:=(by omega);have hne1:w1.heap.size≠r:=(by omega))|(go_at_call 89;have hq:=hr2;refine(zjo _ r wv l rest.tail 4 hq hl (by decide) H4).mono ?_;rintro e w3 ⟨rfl,hr3,hbut3⟩;have hx3:=hx2.but hbut3 hne;have hy3:=hy2.but hbut3 hne1;clear hc2 hf2 hd2 he2;obtain⟨hc3,hf3⟩:=hx3.rules;obtain⟨hd3,he3⟩:=hy3.rules;have hz3:=hx3.lt;have hzy3:=hy3.lt;have hlt3:=hr3.lt;have hB3:=hB2.trans hbut3;clear hq)|(go_at_call 89;have hq:=hr1;refine(zdz _ r wv l rest 1 (by exact hq.below (by repeat'(first|with_reducible(first|exact zR _ _|assumption|refine zN ?_ _|refine zA ?_ ?_ _|refine zD ?_|refine zS ?_ ?_ _)|go_size))) hl (by decide) H1).mono ?_;rintro e w2 ⟨rfl,hr2,hbut2⟩;have hx2:=(hx1.below ((Below.refl _ _).alloc (Nat.le_refl _) _)).but hbut2 hne;have hy2:=(Box.new w1 _ _).but hbut2 hne1;obtain⟨hc2,hf2⟩:=hx2.rules;obtain⟨hd2,he2⟩:=hy2.rules;have hz2:=hx2.lt;have hzy2:=hy2.lt;have hlt2:=hr2.lt;have hB2:=(But.of hB1).trans (((But.refl r w1).alloc _).trans hbut2);clear hq))
 exact bodyPost_ret (v:=.tuple #[.agg #[.bool false,.string t,.slice none 0 0],.bool true]) (by simp[results,Tryz.results88,go_sem,hc3]) rfl ⟨(by repeat'(first|(with_reducible exact But.refl _ _)|(with_reducible assumption)|(with_reducible refine But.drewN ?_ _)|(with_reducible refine But.alloc ?_ _)|(with_reducible refine But.drew ?_)|(with_reducible refine But.setCell ?_ _ _)|(with_reducible refine But.setNew ?_ ?_ _)|go_size)),_,rfl,SIn.nil _,h.keep hr3 (by repeat'(first|with_reducible(first|exact zR _ _|assumption|refine zN ?_ _|refine zA ?_ ?_ _|refine zD ?_|refine zS ?_ ?_ _)|go_size))⟩
theorem z5z(w:World)(r:Nat)(wv:Value)(l rest:List Tok)(h:Rd w r wv l rest)(hl:l.length<=500)(h1:hdK rest=1)(h4:hdK rest.tail=4)(h5:zbv rest.tail.tail=none) :
  Calls Tryz.prog 88 #[.pointer (some ⟨r,0,none⟩)] w fun e w'=>zgr none w r wv l e w':=by
 have hlt:=h.lt
 have hne:w.heap.size≠r:=by omega
 obtain⟨t,HT⟩:∃ t,Hid ((rest.headD (0,ByteArray.empty)).2=t):=⟨_,rfl⟩
 have H1:Hid (hdK rest=1):=h1
 have HPK:Hid (∀ W,Rd W r wv l rest->Calls Tryz.prog 116 #[.pointer (some ⟨r,0,none⟩)] W fun e w'=>e=.returned (.agg #[.int .i64 1,.string t])/\Below W.heap.size W w'):=fun W hW=>by
  have:=zif W r wv l rest hW hl
  rw[h1,Hid.out HT] at this
  exact this
 have H4:Hid (hdK rest.tail=4):=h4
 have H5:Hid (zbv rest.tail.tail=none):=h5
 clear h1 h4 h5 HT
 go_enter Tryz.func88,Tryz.ntmps88
 go_wp2_with (first|(go_at_call 116;refine(Hid.out HPK _ (by exact h.below (by repeat'(first|with_reducible(first|exact zR _ _|assumption|refine zN ?_ _|refine zA ?_ ?_ _|refine zD ?_|refine zS ?_ ?_ _)|go_size)))).mono ?_;rintro e w1 ⟨rfl,hb1⟩;have hB1:=zad ((Below.refl _ _).alloc (Nat.le_refl _) _) hb1 (Nat.le_refl _);have hx1:=(Box.new w _ _).below hb1;have hz1:=hx1.lt;have hr1:=h.below hB1;have hlt1:r < w1.heap.size:=(by omega);have hne1:w1.heap.size≠r:=(by omega))|(go_at_call 117;refine(z8t _ r wv l rest.tail.tail hr3 hl H5).mono ?_;rintro e w4 ⟨rfl,hbut4⟩;have hx4:=hx3.but hbut4 hne;have hy4:=hy3.but hbut4 hne1;clear hc3 hf3 hd3 he3;obtain⟨hc4,hf4⟩:=hx4.rules;obtain⟨hd4,he4⟩:=hy4.rules;have hz4:=hx4.lt;have hzy4:=hy4.lt;have hB4:=hB3.trans hbut4)|(go_at_call 89;have hq:=hr2;refine(zdz _ r wv l rest.tail 4 hq hl (by decide) H4).mono ?_;rintro e w3 ⟨rfl,hr3,hbut3⟩;have hx3:=hx2.but hbut3 hne;have hy3:=hy2.but hbut3 hne1;clear hc2 hf2 hd2 he2;obtain⟨hc3,hf3⟩:=hx3.rules;obtain⟨hd3,he3⟩:=hy3.rules;have hz3:=hx3.lt;have hzy3:=hy3.lt;have hlt3:=hr3.lt;have hB3:=hB2.trans hbut3;clear hq)|(go_at_call 89;have hq:=hr1;refine(zdz _ r wv l rest 1 (by exact hq.below (by repeat'(first|with_reducible(first|exact zR _ _|assumption|refine zN ?_ _|refine zA ?_ ?_ _|refine zD ?_|refine zS ?_ ?_ _)|go_size))) hl (by decide) H1).mono ?_;rintro e w2 ⟨rfl,hr2,hbut2⟩;have hx2:=(hx1.below ((Below.refl _ _).alloc (Nat.le_refl _) _)).but hbut2 hne;have hy2:=(Box.new w1 _ _).but hbut2 hne1;obtain⟨hc2,hf2⟩:=hx2.rules;obtain⟨hd2,he2⟩:=hy2.rules;have hz2:=hx2.lt;have hzy2:=hy2.lt;have hlt2:=hr2.lt;have hB2:=(But.of hB1).trans (((But.refl r w1).alloc _).trans hbut2);clear hq))
 exact bodyPost_ret (v:=.tuple #[.agg #[.bool false,.string ByteArray.empty,.slice none 0 0],.bool false]) (by simp[results,Tryz.results88,go_sem,hc4];rfl) rfl ⟨(by repeat'(first|(with_reducible exact But.refl _ _)|(with_reducible assumption)|(with_reducible refine But.drewN ?_ _)|(with_reducible refine But.alloc ?_ _)|(with_reducible refine But.drew ?_)|(with_reducible refine But.setCell ?_ _ _)|(with_reducible refine But.setNew ?_ ?_ _)|go_size)),rfl⟩
theorem zw6(w:World)(r:Nat)(wv:Value)(l rest r2:List Tok)(ts:List ByteArray)(h:Rd w r wv l rest)(hl:l.length<=500)(h1:hdK rest=1)(h4:hdK rest.tail=4)(h5:zbv rest.tail.tail=some (ts,r2))(h6:hdK r2≠5) :
  Calls Tryz.prog 88 #[.pointer (some ⟨r,0,none⟩)] w fun e w'=>zgr none w r wv l e w':=by
 have hlt:=h.lt
 have hne:w.heap.size≠r:=by omega
 obtain⟨t,HT⟩:∃ t,Hid ((rest.headD (0,ByteArray.empty)).2=t):=⟨_,rfl⟩
 have H1:Hid (hdK rest=1):=h1
 have HPK:Hid (∀ W,Rd W r wv l rest->Calls Tryz.prog 116 #[.pointer (some ⟨r,0,none⟩)] W fun e w'=>e=.returned (.agg #[.int .i64 1,.string t])/\Below W.heap.size W w'):=fun W hW=>by
  have:=zif W r wv l rest hW hl
  rw[h1,Hid.out HT] at this
  exact this
 have H4:Hid (hdK rest.tail=4):=h4
 have H5:Hid (zbv rest.tail.tail=some (ts,r2)):=h5
 have H6:Hid (hdK r2≠5):=h6
 clear h1 h4 h5 h6 HT
 go_enter Tryz.func88,Tryz.ntmps88
 go_wp2_with (first|(go_at_call 116;refine(Hid.out HPK _ (by exact h.below (by repeat'(first|with_reducible(first|exact zR _ _|assumption|refine zN ?_ _|refine zA ?_ ?_ _|refine zD ?_|refine zS ?_ ?_ _)|go_size)))).mono ?_;rintro e w1 ⟨rfl,hb1⟩;have hB1:=zad ((Below.refl _ _).alloc (Nat.le_refl _) _) hb1 (Nat.le_refl _);have hx1:=(Box.new w _ _).below hb1;have hz1:=hx1.lt;have hr1:=h.below hB1;have hlt1:r < w1.heap.size:=(by omega);have hne1:w1.heap.size≠r:=(by omega))|(go_at_call 117;refine(zuo _ r wv l rest.tail.tail r2 ts hr3 hl H5).mono ?_;rintro e w4 ⟨va,rfl,hsin,hr4,hbut4⟩;obtain⟨ao,cp,rfl⟩:=hsin.shape;have hx4:=hx3.but hbut4 hne;have hy4:=hy3.but hbut4 hne1;clear hc3 hf3 hd3 he3;obtain⟨hc4,hf4⟩:=hx4.rules;obtain⟨hd4,he4⟩:=hy4.rules;have hz4:=hx4.lt;have hzy4:=hy4.lt;have hlt4:=hr4.lt;have hB4:=hB3.trans hbut4)|(go_at_call 89;have hq:=hr4;refine(zjo _ r wv l r2 5 hq hl (by decide) H6).mono ?_;rintro e w5 ⟨rfl,hr5,hbut5⟩;have hx5:=hx4.but hbut5 hne;have hy5:=hy4.but hbut5 hne1;clear hc4 hf4 hd4 he4;obtain⟨hc5,hf5⟩:=hx5.rules;obtain⟨hd5,he5⟩:=hy5.rules;have hz5:=hx5.lt;have hzy5:=hy5.lt;have hlt5:=hr5.lt;have hB5:=hB4.trans hbut5;clear hq)|(go_at_call 89;have hq:=hr2;refine(zdz _ r wv l rest.tail 4 hq hl (by decide) H4).mono ?_;rintro e w3 ⟨rfl,hr3,hbut3⟩;have hx3:=hx2.but hbut3 hne;have hy3:=hy2.but hbut3 hne1;clear hc2 hf2 hd2 he2;obtain⟨hc3,hf3⟩:=hx3.rules;obtain⟨hd3,he3⟩:=hy3.rules;have hz3:=hx3.lt;have hzy3:=hy3.lt;have hlt3:=hr3.lt;have hB3:=hB2.trans hbut3;clear hq)|(go_at_call 89;have hq:=hr1;refine(zdz _ r wv l rest 1 (by exact hq.below (by repeat'(first|with_reducible(first|exact zR _ _|assumption|refine zN ?_ _|refine zA ?_ ?_ _|refine zD ?_|refine zS ?_ ?_ _)|go_size))) hl (by decide) H1).mono ?_;rintro e w2 ⟨rfl,hr2,hbut2⟩;have hx2:=(hx1.below ((Below.refl _ _).alloc (Nat.le_refl _) _)).but hbut2 hne;have hy2:=(Box.new w1 _ _).but hbut2 hne1;obtain⟨hc2,hf2⟩:=hx2.rules;obtain⟨hd2,he2⟩:=hy2.rules;have hz2:=hx2.lt;have hzy2:=hy2.lt;have hlt2:=hr2.lt;have hB2:=(But.of hB1).trans (((But.refl r w1).alloc _).trans hbut2);clear hq))
 exact bodyPost_ret (v:=.tuple #[.agg #[.bool false,.string ByteArray.empty,.slice none 0 0],.bool false]) (by simp[results,Tryz.results88,go_sem,hc5];rfl) rfl ⟨(by repeat'(first|(with_reducible exact But.refl _ _)|(with_reducible assumption)|(with_reducible refine But.drewN ?_ _)|(with_reducible refine But.alloc ?_ _)|(with_reducible refine But.drew ?_)|(with_reducible refine But.setCell ?_ _ _)|(with_reducible refine But.setNew ?_ ?_ _)|go_size)),rfl⟩
theorem zz0(w:World)(r:Nat)(wv:Value)(l rest r2:List Tok)(ts:List ByteArray)(h:Rd w r wv l rest)(hl:l.length<=500)(h1:hdK rest=1)(h4:hdK rest.tail=4)(h5:zbv rest.tail.tail=some (ts,r2))(h6:hdK r2=5) :
  Calls Tryz.prog 88 #[.pointer (some ⟨r,0,none⟩)] w fun e w'=>zgr (some (⟨false,(rest.headD (0,ByteArray.empty)).2,ts⟩,r2.tail)) w r wv l e w':=by
 have hlt:=h.lt
 have hne:w.heap.size≠r:=by omega
 generalize ht:(rest.headD (0,ByteArray.empty)).2=t
 have HT:Hid ((rest.headD (0,ByteArray.empty)).2=t):=ht
 clear ht
 have H1:Hid (hdK rest=1):=h1
 have HPK:Hid (∀ W,Rd W r wv l rest->Calls Tryz.prog 116 #[.pointer (some ⟨r,0,none⟩)] W fun e w'=>e=.returned (.agg #[.int .i64 1,.string t])/\Below W.heap.size W w'):=fun W hW=>by
  have:=zif W r wv l rest hW hl
  rw[h1,Hid.out HT] at this
  exact this
 have H4:Hid (hdK rest.tail=4):=h4
 have H5:Hid (zbv rest.tail.tail=some (ts,r2)):=h5
 have H6:Hid (hdK r2=5):=h6
 clear h1 h4 h5 h6 HT
 go_enter Tryz.func88,Tryz.ntmps88
 go_wp2_with (first|(go_at_call 116;refine(Hid.out HPK _ (by exact h.below (by repeat'(first|with_reducible(first|exact zR _ _|assumption|refine zN ?_ _|refine zA ?_ ?_ _|refine zD ?_|refine zS ?_ ?_ _)|go_size)))).mono ?_;rintro e w1 ⟨rfl,hb1⟩;have hB1:=zad ((Below.refl _ _).alloc (Nat.le_refl _) _) hb1 (Nat.le_refl _);have hx1:=(Box.new w _ _).below hb1;have hz1:=hx1.lt;have hr1:=h.below hB1;have hlt1:r < w1.heap.size:=(by omega);have hne1:w1.heap.size≠r:=(by omega))|(go_at_call 117;refine(zuo _ r wv l rest.tail.tail r2 ts hr3 hl H5).mono ?_;rintro e w4 ⟨va,rfl,hsin,hr4,hbut4⟩;obtain⟨ao,cp,rfl⟩:=hsin.shape;have hx4:=hx3.but hbut4 hne;have hy4:=hy3.but hbut4 hne1;clear hc3 hf3 hd3 he3;obtain⟨hc4,hf4⟩:=hx4.rules;obtain⟨hd4,he4⟩:=hy4.rules;have hz4:=hx4.lt;have hzy4:=hy4.lt;have hlt4:=hr4.lt;have hB4:=hB3.trans hbut4)|(go_at_call 89;have hq:=hr4;refine(zdz _ r wv l r2 5 hq hl (by decide) H6).mono ?_;rintro e w5 ⟨rfl,hr5,hbut5⟩;have hx5:=hx4.but hbut5 hne;have hy5:=hy4.but hbut5 hne1;clear hc4 hf4 hd4 he4;obtain⟨hc5,hf5⟩:=hx5.rules;obtain⟨hd5,he5⟩:=hy5.rules;have hz5:=hx5.lt;have hzy5:=hy5.lt;have hlt5:=hr5.lt;have hB5:=hB4.trans hbut5;clear hq)|(go_at_call 89;have hq:=hr2;refine(zdz _ r wv l rest.tail 4 hq hl (by decide) H4).mono ?_;rintro e w3 ⟨rfl,hr3,hbut3⟩;have hx3:=hx2.but hbut3 hne;have hy3:=hy2.but hbut3 hne1;clear hc2 hf2 hd2 he2;obtain⟨hc3,hf3⟩:=hx3.rules;obtain⟨hd3,he3⟩:=hy3.rules;have hz3:=hx3.lt;have hzy3:=hy3.lt;have hlt3:=hr3.lt;have hB3:=hB2.trans hbut3;clear hq)|(go_at_call 89;have hq:=hr1;refine(zdz _ r wv l rest 1 (by exact hq.below (by repeat'(first|with_reducible(first|exact zR _ _|assumption|refine zN ?_ _|refine zA ?_ ?_ _|refine zD ?_|refine zS ?_ ?_ _)|go_size))) hl (by decide) H1).mono ?_;rintro e w2 ⟨rfl,hr2,hbut2⟩;have hx2:=(hx1.below ((Below.refl _ _).alloc (Nat.le_refl _) _)).but hbut2 hne;have hy2:=(Box.new w1 _ _).but hbut2 hne1;obtain⟨hc2,hf2⟩:=hx2.rules;obtain⟨hd2,he2⟩:=hy2.rules;have hz2:=hx2.lt;have hzy2:=hy2.lt;have hlt2:=hr2.lt;have hB2:=(But.of hB1).trans (((But.refl r w1).alloc _).trans hbut2);clear hq))
 obtain⟨c4,f4,hcl⟩:=hr4.cell
 have hs5:=hsin.but hbut5 hcl (by decide)
 exact bodyPost_ret (v:=.tuple #[.agg #[.bool false,.string t,.slice ao ts.length cp],.bool true]) (by simp[results,Tryz.results88,go_sem,hc5]) rfl ⟨(by repeat'(first|(with_reducible exact But.refl _ _)|(with_reducible assumption)|(with_reducible refine But.drewN ?_ _)|(with_reducible refine But.alloc ?_ _)|(with_reducible refine But.drew ?_)|(with_reducible refine But.setCell ?_ _ _)|(with_reducible refine But.setNew ?_ ?_ _)|go_size)),_,rfl,(hs5.low hB3.size).but (r:=w.heap.size) (by repeat'(first|(with_reducible exact But.refl _ _)|(with_reducible assumption)|(with_reducible refine But.drewN ?_ _)|(with_reducible refine But.alloc ?_ _)|(with_reducible refine But.drew ?_)|(with_reducible refine But.setCell ?_ _ _)|(with_reducible refine But.setNew ?_ ?_ _)|go_size)) hx5 (by decide),h.keep hr5 (by repeat'(first|with_reducible(first|exact zR _ _|assumption|refine zN ?_ _|refine zA ?_ ?_ _|refine zD ?_|refine zS ?_ ?_ _)|go_size))⟩
theorem zyc(w:World)(r:Nat)(wv:Value)(l rest:List Tok)(h:Rd w r wv l rest)(hl:l.length<=500) :
  Calls Tryz.prog 88 #[.pointer (some ⟨r,0,none⟩)] w fun e w'=>zgr (zeh rest) w r wv l e w':=by
 unfold zeh
 split
 ·rename_i h1
  split
  ·rename_i h4
   split
   ·rename_i h5;exact z5z w r wv l rest h hl h1 h4 h5
   ·rename_i ts r2 h5
    split
    ·rename_i h6;exact zz0 w r wv l rest r2 ts h hl h1 h4 h5 h6
    ·rename_i h6;exact zw6 w r wv l rest r2 ts h hl h1 h4 h5 h6
  ·rename_i h4;exact z3m w r wv l rest h hl h1 h4
 ·rename_i h1;exact yad w r wv l rest h hl (by simpa using h1)
end Go.Proofs.YteampbddflhngabGreat

namespace Go.Proofs.YteampbddflhngabGreat
set_option maxRecDepth 100000
set_option maxHeartbeats 1000000
open Go.RowKit
variable {lo:Nat}
theorem zta(w:World)(r:Nat)(wv:Value)(l rest:List Tok)(h:Rd w r wv l rest)(hl:l.length<=500)(hp:zeh rest=none) :
  Calls Tryz.prog 88 #[.pointer (some ⟨r,0,none⟩)] w fun e w'=>e=.returned (.tuple #[.agg #[.bool false,.string ByteArray.empty,.slice none 0 0],.bool false])/\But r w w':=by
 refine(zyc w r wv l rest h hl).mono ?_
 rintro e w' ⟨h1,h2⟩
 rw[hp] at h2
 exact⟨h2,h1⟩
theorem zh9(w:World)(r:Nat)(wv:Value)(l rest r2:List Tok)(a:zb2)(h:Rd w r wv l rest)(hl:l.length<=500)(hp:zeh rest=some (a,r2)) :
  Calls Tryz.prog 88 #[.pointer (some ⟨r,0,none⟩)] w fun e w'=>∃ va,e=.returned (.tuple #[.agg #[.bool a.neg,.string a.pred,va],.bool true])/\SIn w.heap.size w' va a.args/\Rd w' r wv l r2/\But r w w':=by
 refine(zyc w r wv l rest h hl).mono ?_
 rintro e w' ⟨h1,h2⟩
 rw[hp] at h2
 obtain⟨v,a,b,c⟩:=h2
 exact⟨v,a,b,c,h1⟩
theorem zqk(b:Bool)(w:World)(r:Nat)(wv:Value)(l rest rest1:List Tok)(h:Rd w r wv l rest)(hl:l.length<=500)
  (htk:∀ W,Rd W r wv l rest->Calls Tryz.prog 89 #[.pointer (some ⟨r,0,none⟩),.int .i64 8] W fun e w'=>e=.returned (.bool b)/\Rd w' r wv l rest1/\But r W w') (ha:zeh rest1=none) :
  Calls Tryz.prog 118 #[.pointer (some ⟨r,0,none⟩)] w fun e w'=>zgr none w r wv l e w':=by
 have hlt:=h.lt
 have hne:w.heap.size≠r:=by omega
 have HTK:Hid (∀ W,Rd W r wv l rest->Calls Tryz.prog 89 #[.pointer (some ⟨r,0,none⟩),.int .i64 8] W fun e w'=>e=.returned (.bool b)/\Rd w' r wv l rest1/\But r W w'):=htk
 clear htk
 have HA:Hid (zeh rest1=none):=ha
 clear ha
 go_enter Tryz.func118,Tryz.ntmps118
 go_wp2_with (first|(go_at_call 89;refine(Hid.out HTK _ (by exact h.below (by repeat'(first|with_reducible(first|exact zR _ _|assumption|refine zN ?_ _|refine zA ?_ ?_ _|refine zD ?_|refine zS ?_ ?_ _)|go_size)))).mono ?_;rintro e w1 ⟨rfl,hr1,hbut1⟩;have hx1:=(Box.new w _ _).but hbut1 hne;have hz1:=hx1.lt;have hlt1:=hr1.lt;have hB1:=((But.refl r w).alloc _).trans hbut1)|(go_at_call 88;refine(zta _ r wv l rest1 hr1 hl HA).mono ?_;rintro e w2 ⟨rfl,hbut2⟩;have hx2:=hx1.but hbut2 hne;obtain⟨hc2,hf2⟩:=hx2.rules;have hz2:=hx2.lt;have hB2:=hB1.trans hbut2))
 exact bodyPost_ret (v:=.tuple #[.agg #[.bool false,.string ByteArray.empty,.slice none 0 0],.bool false]) (by simp[results,Tryz.results118,go_sem,hc2,hz2];rfl) rfl ⟨(by repeat'(first|(with_reducible exact But.refl _ _)|(with_reducible assumption)|(with_reducible refine But.drewN ?_ _)|(with_reducible refine But.alloc ?_ _)|(with_reducible refine But.drew ?_)|(with_reducible refine But.setCell ?_ _ _)|(with_reducible refine But.setNew ?_ ?_ _)|go_size)),rfl⟩
theorem zpa(b:Bool)(w:World)(r:Nat)(wv:Value)(l rest rest1 r2:List Tok)(a:zb2)(h:Rd w r wv l rest)(hl:l.length<=500)
  (htk:∀ W,Rd W r wv l rest->Calls Tryz.prog 89 #[.pointer (some ⟨r,0,none⟩),.int .i64 8] W fun e w'=>e=.returned (.bool b)/\Rd w' r wv l rest1/\But r W w') (ha:zeh rest1=some (a,r2)) :
  Calls Tryz.prog 118 #[.pointer (some ⟨r,0,none⟩)] w fun e w'=>zgr (some ({ a with neg:=b },r2)) w r wv l e w':=by
 have hlt:=h.lt
 have hne:w.heap.size≠r:=by omega
 have HTK:Hid (∀ W,Rd W r wv l rest->Calls Tryz.prog 89 #[.pointer (some ⟨r,0,none⟩),.int .i64 8] W fun e w'=>e=.returned (.bool b)/\Rd w' r wv l rest1/\But r W w'):=htk
 clear htk
 have HA:Hid (zeh rest1=some (a,r2)):=ha
 clear ha
 go_enter Tryz.func118,Tryz.ntmps118
 go_wp2_with (first|(go_at_call 89;refine(Hid.out HTK _ (by exact h.below (by repeat'(first|with_reducible(first|exact zR _ _|assumption|refine zN ?_ _|refine zA ?_ ?_ _|refine zD ?_|refine zS ?_ ?_ _)|go_size)))).mono ?_;rintro e w1 ⟨rfl,hr1,hbut1⟩;have hx1:=(Box.new w _ _).but hbut1 hne;have hz1:=hx1.lt;have hlt1:=hr1.lt;have hB1:=((But.refl r w).alloc _).trans hbut1)|(go_at_call 88;refine(zh9 _ r wv l rest1 r2 a hr1 hl HA).mono ?_;rintro e w2 ⟨va,rfl,hsin,hr2,hbut2⟩;obtain⟨ao,cp,rfl⟩:=hsin.shape;have hx2:=hx1.but hbut2 hne;obtain⟨hc2,hf2⟩:=hx2.rules;have hz2:=hx2.lt;have hB2:=hB1.trans hbut2))
 exact bodyPost_ret (v:=.tuple #[.agg #[.bool b,.string a.pred,.slice ao a.args.length cp],.bool true]) (by simp[results,Tryz.results118,go_sem,hc2,hz2]) rfl ⟨(by repeat'(first|(with_reducible exact But.refl _ _)|(with_reducible assumption)|(with_reducible refine But.drewN ?_ _)|(with_reducible refine But.alloc ?_ _)|(with_reducible refine But.drew ?_)|(with_reducible refine But.setCell ?_ _ _)|(with_reducible refine But.setNew ?_ ?_ _)|go_size)),_,rfl,(hsin.low hB1.size).but (r:=w.heap.size) (by repeat'(first|(with_reducible exact But.refl _ _)|(with_reducible assumption)|(with_reducible refine But.drewN ?_ _)|(with_reducible refine But.alloc ?_ _)|(with_reducible refine But.drew ?_)|(with_reducible refine But.setCell ?_ _ _)|(with_reducible refine But.setNew ?_ ?_ _)|go_size)) hx2 (by decide),h.keep hr2 (by repeat'(first|with_reducible(first|exact zR _ _|assumption|refine zN ?_ _|refine zA ?_ ?_ _|refine zD ?_|refine zS ?_ ?_ _)|go_size))⟩
theorem z5b{rest r2:List Tok}{a:zb2}(h:zeh rest=some (a,r2)):a.neg=false:=by
 unfold zeh at h
 (repeat' split at h) <;> first|(cases h;done)|(simp at h;obtain⟨rfl,_⟩:=h;rfl)
theorem zot(w:World)(r:Nat)(wv:Value)(l rest:List Tok)(h:Rd w r wv l rest)(hl:l.length<=500) :
  Calls Tryz.prog 118 #[.pointer (some ⟨r,0,none⟩)] w fun e w'=>zgr (zs4 rest) w r wv l e w':=by
 unfold zs4
 split
 ·rename_i h8
  cases ha:zeh rest.tail with
  |none=>exact zqk true w r wv l rest rest.tail h hl (fun W hW=>zdz W r wv l rest 8 hW hl (by decide) h8) ha
  |some z=>obtain⟨a,r2⟩:=z;exact zpa true w r wv l rest rest.tail r2 a h hl (fun W hW=>zdz W r wv l rest 8 hW hl (by decide) h8) ha
 ·rename_i h8
  cases ha:zeh rest with
  |none=>exact zqk false w r wv l rest rest h hl (fun W hW=>zjo W r wv l rest 8 hW hl (by decide) h8) ha
  |some z =>
   obtain⟨a,r2⟩:=z
   have:=zpa false w r wv l rest rest r2 a h hl (fun W hW=>zjo W r wv l rest 8 hW hl (by decide) h8) ha
   rwa [show({ a with neg:=false }:zb2)=a by rw[← z5b ha]] at this
end Go.Proofs.YteampbddflhngabGreat

namespace Go.Proofs.YteampbddflhngabGreat
set_option maxRecDepth 100000
set_option maxHeartbeats 1000000
open Go.RowKit
variable {lo:Nat}
theorem zjt{wO w2:World}{b b2:Nat}{e e2:TypeId}{s s2:Nat}{v v2:Value}{n n2:Nat}{xs xs2:List Value}(hv:wO.ownsRow b e s v n xs)(hne:e≠e2)(h:wO.ownsRow b2 e2 s2 v2 n2 xs2)
  (hk:∀ k,k < wO.heap.size->some k≠v.ownBlock->w2.heap[k]?=wO.heap[k]?):w2.ownsRow b2 e2 s2 v2 n2 xs2:=by
 obtain⟨h1,h2⟩:=h
 refine⟨h1,?_⟩
 rcases h2 with h2|⟨g,cap,cur,hv2,hg,hh,rr⟩
 ·exact Or.inl h2
 ·refine Or.inr ⟨g,cap,cur,hv2,hg,?_,rr⟩
  rw[hk g (Array.getElem?_eq_some_iff.1 hh).1 ?_]
  ·exact hh
  ·intro he
   obtain⟨_,⟨hv0,_⟩|⟨g',cap',cur',hv',_,hh',_⟩⟩:=hv
   ·subst hv0;cases he
   ·subst hv';simp only[Value.ownBlock,Option.some.injEq] at he;subst he;rw[hh] at hh';simp at hh';exact hne hh'.2.symm
def zcq(lo:Nat)(w:World):List zb2->List Value->Prop
 |[],xs=>xs=[]
 |a::ls,xs=>∃ va r,xs=.bool a.neg::.string a.pred::va::r/\SIn lo w va a.args/\zcq lo w ls r
theorem zcq.snoc{w:World}{a:zb2}{va:Value}(hs:SIn lo w va a.args):∀ {ls:List zb2} {xs:List Value},zcq lo w ls xs->zcq lo w (ls++[a]) (xs++[.bool a.neg,.string a.pred,va])
 |[],_,h=>by simp only[zcq] at h;subst h;exact⟨va,[],rfl,hs,rfl⟩
 |_::ls,_,h=>by obtain⟨v,r,rfl,h1,h2⟩:=h;exact⟨v,r++[.bool a.neg,.string a.pred,va],rfl,h1,zcq.snoc hs h2⟩
theorem zcq.mono{w w':World}(hm:∀ va l,SIn lo w va l->SIn lo w' va l):∀ {ls:List zb2} {xs:List Value},zcq lo w ls xs->zcq lo w' ls xs
 |[],_,h=>h
 |_::ls,_,h=>by obtain⟨v,r,rfl,h1,h2⟩:=h;exact⟨v,r,rfl,hm _ _ h1,zcq.mono hm h2⟩
theorem zcq.at{w:World}:∀ {ls:List zb2} {xs:List Value} (i:Nat) (a:zb2),zcq lo w ls xs->ls[i]?=some a->∃ va,xs[i * 3]?=some (.bool a.neg)/\xs[i * 3+1]?=some (.string a.pred)/\xs[i * 3+2]?=some va/\SIn lo w va a.args
 |[],_,i,a,_,hi=>by simp at hi
 |_::ls,_,0,a,h,hi=>by obtain⟨v,r,rfl,h1,h2⟩:=h;simp at hi;subst hi;exact⟨v,rfl,rfl,rfl,h1⟩
 |_::ls,_,i+1,a,h,hi=>by
  obtain⟨v,r,rfl,h1,h2⟩:=h
  obtain⟨va,a1,a2,a3,a4⟩:=zcq.at i a h2 (by simpa using hi)
  refine⟨va,?_,?_,?_,a4⟩
  ·rw[show(i+1) * 3=i * 3+1+1+1 from by omega];simpa using a1
  ·rw[show(i+1) * 3+1=i * 3+1+1+1+1 from by omega];simpa using a2
  ·rw[show(i+1) * 3+2=i * 3+2+1+1+1 from by omega];simpa using a3
def LIn(lo:Nat)(w:World)(v:Value)(ls:List zb2):Prop:=∃ xs,w.ownsRow lo 45 3 v ls.length xs/\zcq lo w ls xs
theorem zcq.low{a b:Nat}{w:World}(hab:a<=b):∀ {ls:List zb2} {xs:List Value},zcq b w ls xs->zcq a w ls xs
 |[],_,h=>h
 |_::ls,_,h=>by obtain⟨v,r,rfl,h1,h2⟩:=h;exact⟨v,r,rfl,h1.low hab,zcq.low hab h2⟩
theorem LIn.low{a b:Nat}{w:World}{v:Value}{l:List zb2}(h:LIn b w v l)(hab:a<=b):LIn a w v l:=by obtain⟨xs,h,hc⟩:=h;exact⟨xs,zbi h hab,hc.low hab⟩
theorem LIn.nil(w:World):LIn lo w (.slice none 0 0) []:=⟨[],World.ownsRow_nil _ _ _ _,rfl⟩
theorem LIn.shape{w:World}{v:Value}{l:List zb2}(h:LIn lo w v l):∃ ao cap,v=.slice ao l.length cap:=by obtain⟨xs,h,_⟩:=h;exact zac h
theorem LIn.below{w w':World}{v:Value}{l:List zb2}(h:LIn lo w v l)(hb:Below w.heap.size w w'):LIn lo w' v l:=by
 obtain⟨xs,h,hc⟩:=h;exact⟨xs,zaa h hb,hc.mono fun _ _ k=>k.below hb⟩
theorem LIn.but{r:Nat}{w w':World}{v:Value}{l:List zb2}(h:LIn lo w v l)(hb:But r w w'){c:Array Value}{T:TypeId}{f:Nat × Nat}(hr:w.heap[r]?=some (.cells c T f))(hT:T≠9)(hT2:T≠45):LIn lo w' v l:=by
 obtain⟨xs,h,hc⟩:=h;exact⟨xs,zb9 h hb hr hT2,hc.mono fun _ _ k=>k.but hb hr hT⟩
def ze9:Nat->List Tok->Option (List zb2 × List Tok)
 |0,_=>none
 |n+1,r=>match zs4 r with
  |none=>none
  |some (a,r2)=>if hdK r2=6 then(ze9 n r2.tail).map fun z=>(a::z.1,z.2) else some ([a],r2)
theorem zr7{n:Nat}{r:List Tok}(h:zs4 r=none):ze9 (n+1) r=none:=by simp[ze9,h]
theorem zmk{n:Nat}{r r2:List Tok}{a:zb2}(h:zs4 r=some (a,r2))(h6:hdK r2=6):ze9 (n+1) r=(ze9 n r2.tail).map fun z=>(a::z.1,z.2):=by simp[ze9,h,h6]
theorem zmd{n:Nat}{r r2:List Tok}{a:zb2}(h:zs4 r=some (a,r2))(h6:hdK r2≠6):ze9 (n+1) r=some ([a],r2):=by simp[ze9,h,h6]
theorem zqg:∀(r:List Tok) {ts:List ByteArray} {r2:List Tok},zbv r=some (ts,r2)->r2.length < r.length
 |[],_,_,h=>by simp[zbv] at h
 |[x],ts,r2,h=>by
  simp only[zbv] at h
  split at h <;> simp at h
  obtain⟨_,rfl⟩:=h;simp
 |x::y::r,ts,r2,h=>by
  simp only[zbv] at h
  split at h
  ·split at h
   ·cases hq:zbv r with
    |none=>rw[hq] at h;simp at h
    |some z =>
     obtain⟨ts',r'⟩:=z
     rw[hq] at h;simp at h
     have:=zqg r hq
     obtain⟨_,rfl⟩:=h;simp;omega
   ·simp at h;obtain⟨_,rfl⟩:=h;simp
  ·simp at h
theorem zly{r r2:List Tok}{a:zb2}(h:zeh r=some (a,r2)):r2.length < r.length:=by
 cases r with
 |nil=>simp[zeh,hdK] at h
 |cons x r =>
  unfold zeh at h
  split at h
  ·split at h
   ·split at h
    ·simp at h
    ·rename_i ts r3 hq
     have:=zqg _ hq
     split at h <;> simp at h
     obtain⟨_,rfl⟩:=h;simp at this ⊢;omega
   ·simp at h;obtain⟨_,rfl⟩:=h;simp
  ·simp at h
theorem zzb{r r2:List Tok}{a:zb2}(h:zs4 r=some (a,r2)):r2.length < r.length:=by
 unfold zs4 at h
 split at h
 ·cases hq:zeh r.tail with
  |none=>rw[hq] at h;simp at h
  |some z =>
   obtain⟨a',r'⟩:=z
   rw[hq] at h;simp at h
   have:=zly hq
   obtain⟨_,rfl⟩:=h;simp at this;omega
 ·exact zly h
theorem z88(w:World)(r:Nat)(wv:Value)(l rest:List Tok)(h:Rd w r wv l rest)(hl:l.length<=500)(hp:zs4 rest=none) :
  Calls Tryz.prog 118 #[.pointer (some ⟨r,0,none⟩)] w fun e w'=>e=.returned (.tuple #[.agg #[.bool false,.string ByteArray.empty,.slice none 0 0],.bool false])/\But r w w':=by
 refine(zot w r wv l rest h hl).mono ?_
 rintro e w' ⟨h1,h2⟩
 rw[hp] at h2
 exact⟨h2,h1⟩
theorem z7b(w:World)(r:Nat)(wv:Value)(l rest r2:List Tok)(a:zb2)(h:Rd w r wv l rest)(hl:l.length<=500)(hp:zs4 rest=some (a,r2)) :
  Calls Tryz.prog 118 #[.pointer (some ⟨r,0,none⟩)] w fun e w'=>∃ va,e=.returned (.tuple #[.agg #[.bool a.neg,.string a.pred,va],.bool true])/\SIn w.heap.size w' va a.args/\Rd w' r wv l r2/\But r w w':=by
 refine(zot w r wv l rest h hl).mono ?_
 rintro e w' ⟨h1,h2⟩
 rw[hp] at h2
 obtain⟨v,a,b,c⟩:=h2
 exact⟨v,a,b,c,h1⟩
theorem Tryz.infoLit:(Tryz.prog.info? 45).map (fun i=>(i.zero,i.size,i.bytes))=some (some (.agg #[.bool false,.string ByteArray.empty,.slice none 0 0]),3,48):=by kernel_rfl
def zr5(o:Option (List zb2 × List Tok))(w:World)(r:Nat)(wv:Value)(l:List Tok)(e:Ending)(w':World):Prop :=
 But r w w'/\match o with
  |none=>e=.returned (.tuple #[.slice none 0 0,.bool false])
  |some (ls,r2)=>∃ v,e=.returned (.tuple #[v,.bool true])/\LIn w.heap.size w' v ls/\Rd w' r wv l r2
theorem zw8{o:Option (List zb2 × List Tok)}{w w':World}{r:Nat}{wv:Value}{l:List Tok}(h:Hid (o=none))(hb:But r w w'):zr5 o w r wv l (.returned (.tuple #[.slice none 0 0,.bool false])) w':=by
 have h':o=none:=h
 subst h';exact⟨hb,rfl⟩
theorem zvq{o:Option (List zb2 × List Tok)}{w w':World}{r:Nat}{wv v:Value}{l r2:List Tok}{ls:List zb2}(h:Hid (o=some (ls,r2)))(hb:But r w w')(hs:LIn w.heap.size w' v ls)(hr:Rd w' r wv l r2) :
  zr5 o w r wv l (.returned (.tuple #[v,.bool true])) w':=by
 have h':o=some (ls,r2):=h
 subst h';exact⟨hb,v,rfl,hs,hr⟩
theorem zx0(w:World)(r:Nat)(wv:Value)(l rest:List Tok)(h:Rd w r wv l rest)(hl:l.length<=500)(n0:Nat)(hn0:rest.length < n0) :
  Calls Tryz.prog 90 #[.pointer (some ⟨r,0,none⟩)] w fun e w'=>zr5 (ze9 n0 rest) w r wv l e w':=by
 obtain⟨i0,hi,hz0,hzs,hzb⟩:=info_parts Tryz.infoLit
 have hlt:=h.lt
 go_enter Tryz.func90,Tryz.ntmps90
 go_wp2
 go_loopg [4,5] (rest.length) (fun n v t wr=>∃(acc:List zb2) (rst:List Tok) (more:Bool) (m:Nat) (xs:List Value),t=.bool more/\rst.length<=n/\rst.length < m/\rst.length+acc.length<=rest.length ∧
   wr.ownsRow w.heap.size 45 3 v acc.length xs/\zcq w.heap.size wr acc xs/\Rd wr r wv l rst/\But r w wr ∧
   Hid (more=true->ze9 n0 rest=(ze9 m rst).map fun z=>(acc++z.1,z.2))/\Hid (more=false->ze9 n0 rest=some (acc,rst)))
 case atStart=>exact⟨[],rest,true,n0,[],rfl,Nat.le_refl _,hn0,by simp,World.ownsRow_nil _ _ _ _,rfl,h,But.refl _ _,(fun _=>by simp),(fun h=>by cases h)⟩
 case round =>
  obtain⟨acc,rst,more,m,xs,rfl,hn,hm,hra,hown,hlc,hrd,hbut,H1,H2⟩:=hrel
  have hrl:rest.length<=l.length:=by
   obtain⟨p,_,hp,_⟩:=h.box;rw[hp];simp
  have hws:=hbut.size
  obtain⟨c0,f0,hcell⟩:=hrd.cell
  cases more with
  |false =>
   have H3:Hid (ze9 n0 rest=some (acc,rst)):=H2 rfl
   clear H1 H2
   go_wp2
   go_ret2
   exact zvq H3 hbut ⟨_,hown,hlc⟩ hrd
  |true =>
   obtain⟨m,rfl⟩:∃ m',m=m'+1:=⟨m - 1,by omega⟩
   have HC:Hid (wr.heap[r]?=some (.cells c0 132 f0)):=hcell
   cases hL:zs4 rst with
   |none =>
    have H3:Hid (ze9 n0 rest=none):=by rw[Hid.out H1 rfl,zr7 hL];simp[Hid]
    have HL:Hid (zs4 rst=none):=hL
    clear H1 H2 hL
    go_wp2_with (first|(go_at_call 118;refine(z88 _ r wv l rst hrd hl HL).mono ?_;rintro e w1 ⟨rfl,hbut1⟩;have hB1:=hbut.trans hbut1;have hz1:=hB1.size))
    go_ret2
    exact zw8 H3 (by repeat'(first|(with_reducible exact But.refl _ _)|(with_reducible assumption)|(with_reducible refine But.drewN ?_ _)|(with_reducible refine But.alloc ?_ _)|(with_reducible refine But.drew ?_)|(with_reducible refine But.setCell ?_ _ _)|(with_reducible refine But.setNew ?_ ?_ _)|go_size))
   |some z =>
    obtain⟨a,r2⟩:=z
    have HL:Hid (zs4 rst=some (a,r2)):=hL
    have hll:=zzb hL
    have H3:Hid (ze9 n0 rest=(ze9 (m+1) rst).map fun z=>(acc++z.1,z.2)):=H1 rfl
    clear H1 H2 hL
    go_wp2_with (first|(go_at_call 118;refine(z7b _ r wv l rst r2 a hrd hl HL).mono ?_;rintro e w1 ⟨va,rfl,hsin,hr1,hbut1⟩;obtain⟨ao,cp,rfl⟩:=hsin.shape;have hB1:=hbut.trans hbut1;have hz1:=hB1.size;have ho1:=zb9 hown hbut1 hcell (by decide);have hlc1:=hlc.mono fun _ _ k=>k.but hbut1 hcell (by decide))|(at_builtin;refine zg2 w1 _ _ _ rfl (.tmp 16) (.tmp 18) 41 rfl w.heap.size 45 i0 _ 3 48 Tryz.underlying41 hi hz0 hzs hzb rfl (by decide) _ _ _ rfl ho1 ((Below.refl _ _).alloc (Nat.le_refl _) _) _ _ rfl (by simp) rfl (by simp[Value.oneCell']) (by omega) (by omega) (by omega) ?_;intro v' w2 ho2 hB2 hc2 hf2 hk2 hz2';clear hc2 hf2;have hrd2:=Rd.keep h hr1 hB2;have hbut2:=hB1.onto hB2;have hs2:SIn w.heap.size w2 (Value.slice ao a.args.length cp) a.args:=zbi (zjt ho1 (by decide) hsin hk2) hws;have hlc2:=hlc1.mono fun _ _ k=>zjt ho1 (by decide) k hk2;have htk:=take_any w2 r wv l r2 6 hrd2 hl (by decide))|(go_at_call 89;refine htk.mono ?_;rintro e w3 ⟨rfl,hrd3,hbut3⟩;clear htk))
    obtain⟨c3,f3,hcell3⟩:=hrd2.cell
    have ho3:=zb9 ho2 hbut3 hcell3 (by decide)
    have hs3:=hs2.but hbut3 hcell3 (by decide)
    have hlc3:=hlc2.mono fun _ _ k=>k.but hbut3 hcell3 (by decide)
    have htl:(if hdK r2=6 then r2.tail else r2).length<=r2.length:=by split <;> simp
    have hll2:zs4 rst=some (a,r2):=HL
    go_roundg r2.length
    case measure=>omega
    case rel =>
     refine⟨acc++[a],(if hdK r2=6 then r2.tail else r2),(hdK r2 == 6),m,_,rfl,htl,by omega,by simp;omega,by rw[List.length_append];exact ho3,hlc3.snoc hs3,hrd3,hbut2.trans hbut3,?_,?_⟩
     ·intro h6
      have h6':hdK r2=6:=by simpa using h6
      rw[if_pos h6',Hid.out H3,zmk hll2 h6',zs5]
     ·intro h6
      have h6':hdK r2≠6:=by simpa using h6
      rw[if_neg h6',Hid.out H3,zmd hll2 h6'];simp
end Go.Proofs.YteampbddflhngabGreat
