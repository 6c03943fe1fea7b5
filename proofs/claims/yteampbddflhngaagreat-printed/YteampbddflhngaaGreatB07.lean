import Derived.Test.YteampbddflhngaaGreatB06

namespace Go.Proofs.YteampbddflhngaaGreat
set_option maxRecDepth 100000
set_option maxHeartbeats 1000000
open Go.RowKit
theorem zbv{w:World}{base:Nat}{e:TypeId}{size:Nat}{g n cap:Nat}{m:Nat}{xs:List Value}(h:w.ownsRow base e size (.slice (some ⟨g,0,none⟩) n cap) m xs)(o:Nat):w.frozen? ⟨g,o,none⟩=false:=by
 obtain⟨_,⟨hv,_⟩|⟨g',cap',cur,hv,_,hh,_⟩⟩:=h
 ·cases hv
 ·simp at hv;obtain⟨rfl,_⟩:=hv;unfold World.frozen?;rw[hh];simp
theorem zb4{w:World}{base:Nat}{e:TypeId}{size:Nat}{g n cap:Nat}{m:Nat}{xs:List Value}(h:w.ownsRow base e size (.slice (some ⟨g,0,none⟩) n cap) m xs)(j:Nat)(_:j < xs.length)(u:Value) :
  (w.setCell ⟨g,j,none⟩ u).ownsRow base e size (.slice (some ⟨g,0,none⟩) n cap) m (xs.set j u):=by
 obtain⟨hl,⟨hv,_⟩|⟨g',cap',cur,hv,hg,hh,h1,h2,h3,h4⟩⟩:=h
 ·cases hv
 ·simp at hv;obtain⟨rfl,rfl,rfl⟩:=hv
  refine⟨by simpa using hl,Or.inr ⟨g,cap,cur.setIfInBounds j u,rfl,hg,?_,h1,h2,by simpa using h3,?_⟩⟩
  ·simp[World.setCell,Array.getElem?_modify,hh]
  ·rw[← h4]
   rw[Array.toList_setIfInBounds,List.take_set]
def zbh(t:List zaq)(n:ByteArray):Option zaq:=match t[zaj t n]? with
 |none=>none
 |some e=>if e.name=n then some e else none
theorem zch{t:List zaq}{n:ByteArray}{e:zaq}(h:zbh t n=some e):∃ hk:zaj t n < t.length,t[zaj t n]=e/\e.name=n:=by
 unfold zbh at h
 split at h
 ·cases h
 ·rename_i e' he
  split at h <;> simp at h
  subst h
  obtain⟨hk,he⟩:=List.getElem?_eq_some_iff.1 he
  exact⟨hk,he,by assumption⟩
theorem zj4{t:List zaq}{n:ByteArray}(h:zbh t n=none):¬ zaj t n < t.length∨∃ hk:zaj t n < t.length,t[zaj t n].name≠n:=by
 unfold zbh at h
 split at h
 ·rename_i he;left;rw[List.getElem?_eq_none_iff] at he;omega
 ·rename_i e he
  split at h <;> simp at h
  obtain⟨hk,he⟩:=List.getElem?_eq_some_iff.1 he
  right;exact⟨hk,by rw[he];assumption⟩
theorem z0c(B:Nat)(w:World)(tb:Nat)(t:List zaq)(n:ByteArray)(h:TA B w tb t)(hl:t.length<=1000)(hn:zbh t n=none) :
  Calls Tryz.prog 77 #[.pointer (some ⟨tb,0,none⟩),.string n] w fun e w'=>e=.returned (.tuple #[.int .i64 0,.bool false])/\w'=w:=by
 have hpl:=zme B w tb t n h hl
 obtain⟨ao,cap,hbx,hown⟩:=h.view
 obtain⟨hc,hf⟩:=hbx.rules
 have HPL:Hid (Calls Tryz.prog 126 #[.pointer (some ⟨tb,0,none⟩),.string n] w fun e w'=>e=.returned (.int .i64 (zaj t n))/\w'=w):=hpl
 have hle:=zfj t n
 clear h hpl
 rcases zj4 hn with hk|⟨hk,hne⟩
 ·clear hn
  generalize zaj t n=k at *
  go_enter Tryz.func77,Tryz.ntmps77
  go_wp2_with (first|(go_at_call 126;refine HPL.out.mono ?_;rintro e w' ⟨rfl,rfl⟩;clear HPL))
  go_ret2
  exact⟨rfl,rfl⟩
 ·obtain⟨g,rfl,hg,_,hd0,_,_⟩:=zdw hown _ hk
  have he:=zen hne
  clear hn hne
  generalize t[zaj t n].name=x at *
  generalize zaj t n=k at *
  go_enter Tryz.func77,Tryz.ntmps77
  go_wp2_with (first|(go_at_call 126;refine HPL.out.mono ?_;rintro e w' ⟨rfl,rfl⟩;clear HPL))
  go_ret2
  exact⟨rfl,rfl⟩
theorem zux(B:Nat)(w:World)(tb:Nat)(t:List zaq)(n:ByteArray)(e0:zaq)(h:TA B w tb t)(hl:t.length<=1000)(hn:zbh t n=some e0) :
  Calls Tryz.prog 77 #[.pointer (some ⟨tb,0,none⟩),.string n] w fun e w'=>e=.returned (.tuple #[.int .i64 (zaj t n),.bool true])/\w'=w:=by
 have hpl:=zme B w tb t n h hl
 obtain⟨ao,cap,hbx,hown⟩:=h.view
 obtain⟨hc,hf⟩:=hbx.rules
 have HPL:Hid (Calls Tryz.prog 126 #[.pointer (some ⟨tb,0,none⟩),.string n] w fun e w'=>e=.returned (.int .i64 (zaj t n))/\w'=w):=hpl
 have hle:=zfj t n
 clear h hpl
 obtain⟨hk,hee,hnn⟩:=zch hn
 obtain⟨g,rfl,hg,_,hd0,_,hd2⟩:=zdw hown _ hk
 rw[hee] at hd0 hd2
 have he:=zfo hnn
 clear hn hnn hee
 generalize e0.name=x at *
 generalize zaj t n=k at *
 go_enter Tryz.func77,Tryz.ntmps77
 go_wp2_with (first|(go_at_call 126;refine HPL.out.mono ?_;rintro e w' ⟨rfl,rfl⟩;clear HPL))
 go_ret2
 exact⟨rfl,rfl⟩
theorem zyh(B:Nat)(w:World)(tb:Nat)(t:List zaq)(n:ByteArray)(h:TA B w tb t)(hl:t.length<=1000)(hn:zbh t n=none) :
  Calls Tryz.prog 159 #[.pointer (some ⟨tb,0,none⟩),.string n] w fun e w'=>e=.returned (.tuple #[.int .i64 0,.bool false])/\w'=w:=by
 have HF:Hid (Calls Tryz.prog 77 #[.pointer (some ⟨tb,0,none⟩),.string n] w fun e w'=>e=.returned (.tuple #[.int .i64 0,.bool false])/\w'=w):=z0c B w tb t n h hl hn
 clear h hn hl
 go_enter Tryz.func159,Tryz.ntmps159
 go_wp2_with (first|(go_at_call 77;refine HF.out.mono ?_;rintro e w' ⟨rfl,rfl⟩;clear HF))
 go_ret2
 exact⟨rfl,rfl⟩
theorem zm9(B:Nat)(w:World)(tb:Nat)(t:List zaq)(n:ByteArray)(e0:zaq)(h:TA B w tb t)(hl:t.length<=1000)(hn:zbh t n=some e0) :
  Calls Tryz.prog 159 #[.pointer (some ⟨tb,0,none⟩),.string n] w fun e w'=>e=.returned (.tuple #[.int .i64 e0.stratum,.bool true])/\w'=w:=by
 have HF:Hid (Calls Tryz.prog 77 #[.pointer (some ⟨tb,0,none⟩),.string n] w fun e w'=>e=.returned (.tuple #[.int .i64 (zaj t n),.bool true])/\w'=w):=zux B w tb t n e0 h hl hn
 obtain⟨ao,cap,hbx,hown⟩:=h.view
 obtain⟨hc,hf⟩:=hbx.rules
 obtain⟨hk,hee,hnn⟩:=zch hn
 obtain⟨g,rfl,hg,_,hd0,_,hd2⟩:=zdw hown _ hk
 rw[hee] at hd2
 clear hn hnn hee h hd0
 generalize zaj t n=k at *
 go_enter Tryz.func159,Tryz.ntmps159
 go_wp2_with (first|(go_at_call 77;refine HF.out.mono ?_;rintro e w' ⟨rfl,rfl⟩;clear HF))
 go_ret2
 exact⟨rfl,rfl⟩
theorem zsi:∀(t:List zaq) (k:Nat) (e:zaq) (hk:k < t.length),t[k].name=e.name->t[k].arity=e.arity->(zce t).set (k * 3+2) (.int .i64 (e.stratum:Int))=zce (t.set k e)
 |[],k,_,hk,_,_=>by simp at hk
 |a::r,0,e,_,h1,h2=>by simp at h1 h2;simp[zce,h1,h2]
 |a::r,k+1,e,hk,h1,h2=>by
  have:=zsi r k e (by simpa using hk) (by simpa using h1) (by simpa using h2)
  simp only[zce,List.flatMap_cons,List.set_cons_succ] at this ⊢
  rw[show(k+1) * 3+2=k * 3+2+1+1+1 from by omega]
  simpa using this
def zcd(t:List zaq)(n:ByteArray)(s:Nat):List zaq × Bool:=match zbh t n with
 |none=>(t,false)
 |some e=>if s<=e.stratum then(t,false) else(t.set (zaj t n) { e with stratum:=s },true)
theorem z1c(t:List zaq)(n:ByteArray)(s:Nat):(zcd t n s).1.length=t.length:=by
 unfold zcd;split
 ·rfl
 ·split <;> simp
theorem raise_any(B:Nat)(w:World)(tb:Nat)(t:List zaq)(n:ByteArray)(s:Nat)(h:TA B w tb t)(hl:t.length<=1000)(_:s<=3000000) :
  Calls Tryz.prog 151 #[.pointer (some ⟨tb,0,none⟩),.string n,.int .i64 s] w fun e w'=>e=.returned (.bool (zcd t n s).2)/\TA B w' tb (zcd t n s).1/\Below B w w':=by
 obtain⟨ao,cap,hbx,hown⟩:=h.view
 obtain⟨hc,hf⟩:=hbx.rules
 have hle:=zfj t n
 have HT:Hid (TA B w tb t):=h
 cases hn:zbh t n with
 |none =>
  have HR:Hid (zcd t n s=(t,false)):=by unfold Hid zcd;rw[hn]
  have HF:Hid (Calls Tryz.prog 77 #[.pointer (some ⟨tb,0,none⟩),.string n] w fun e w'=>e=.returned (.tuple #[.int .i64 0,.bool false])/\w'=w):=z0c B w tb t n h hl hn
  rw[HR.out]
  clear hn HR h
  go_enter Tryz.func151,Tryz.ntmps151
  go_wp2_with (first|(go_at_call 77;refine HF.out.mono ?_;rintro e w' ⟨rfl,rfl⟩;clear HF))
  go_ret
  exact⟨rfl,HT,Below.refl _ _⟩
 |some e0 =>
  have HF:Hid (Calls Tryz.prog 77 #[.pointer (some ⟨tb,0,none⟩),.string n] w fun e w'=>e=.returned (.tuple #[.int .i64 (zaj t n),.bool true])/\w'=w):=zux B w tb t n e0 h hl hn
  obtain⟨hk,hee,hnn⟩:=zch hn
  obtain⟨g,rfl,hg,hBg,hd0,_,hd2⟩:=zdw hown _ hk
  have hfz:=zbv hown
  by_cases hse:s<=e0.stratum
  ·have HR:Hid (zcd t n s=(t,false)):=by unfold Hid zcd;rw[hn];simp[hse]
   rw[HR.out]
   rw[hee] at hd0 hd2
   clear hn hnn HR hee h hd0
   generalize zaj t n=k at *
   go_enter Tryz.func151,Tryz.ntmps151
   go_wp2_with (first|(go_at_call 77;refine HF.out.mono ?_;rintro e w' ⟨rfl,rfl⟩;clear HF))
   go_ret
   exact⟨rfl,HT,Below.refl _ _⟩
  ·have HR:Hid (zcd t n s=(t.set (zaj t n) { e0 with stratum:=s },true)):=by unfold Hid zcd;rw[hn];simp[hse]
   rw[HR.out]
   have hset:=zb4 hown (zaj t n * 3+2) (by rw[zm7];omega) (.int .i64 (s:Int))
   rw[zsi t (zaj t n) { e0 with stratum:=s } hk (by rw[hee]) (by rw[hee])] at hset
   have hneg:tb≠g:=by
    intro hgg;subst hgg
    obtain⟨_,⟨hv,_⟩|⟨g',cap',cur,hv,_,hh,_⟩⟩:=hown
    ·cases hv
    ·simp at hv;obtain⟨rfl,_⟩:=hv;unfold Box at hbx;rw[hh] at hbx;simp at hbx
   have hbx2:=hbx.set_ne hneg (zaj t n * 3+2) (.int .i64 (s:Int))
   have HFT:Hid (TA B (w.setCell ⟨g,zaj t n * 3+2,none⟩ (.int .i64 (s:Int))) tb (t.set (zaj t n) { e0 with stratum:=s })):=⟨_,hbx2,by simpa using hset⟩
   have hse':e0.stratum < s:=by omega
   rw[hee] at hd0 hd2
   clear hn hnn HR hee hset hbx2 hse h hd0
   generalize t.set (zaj t n) { e0 with stratum:=s }=t2 at *
   generalize zaj t n=k at *
   go_enter Tryz.func151,Tryz.ntmps151
   go_wp2_with (first|(go_at_call 77;refine HF.out.mono ?_;rintro e w' ⟨rfl,rfl⟩;clear HF))
   go_ret
   exact⟨rfl,HFT,(Below.refl _ _).setCell hBg _⟩
end Go.Proofs.YteampbddflhngaaGreat

namespace Go.Proofs.YteampbddflhngaaGreat
set_option maxRecDepth 100000
set_option maxHeartbeats 1000000
open Go.RowKit
variable {lo:Nat}
def zw6(t:List zaq)(l:zbc):Nat:=match zbh t l.pred with
 |none=>0
 |some e=>if l.neg then e.stratum+1 else e.stratum
def zfc(t:List zaq)(n:Nat)(l:zbc):Nat:=if n < zw6 t l then zw6 t l else n
def zfr(t:List zaq)(c:zaa):Nat:=c.body.foldl (zfc t) 0
theorem z3u{t:List zaq}{M:Nat}(h:∀ e∈t,e.stratum<=M)(l:zbc):zw6 t l<=M+1:=by
 unfold zw6
 split
 ·omega
 ·rename_i e he
  obtain⟨hk,hee,_⟩:=zch he
  have:=h e (by rw[← hee];exact List.getElem_mem hk)
  split <;> omega
theorem zuz{t:List zaq}{M:Nat}(h:∀ e∈t,e.stratum<=M):∀(ls:List zbc) (n:Nat),n<=M+1->ls.foldl (zfc t) n<=M+1
 |[],n,hn=>hn
 |l::ls,n,hn=>by
  refine zuz h ls _ ?_
  unfold zfc;have:=z3u h l;split <;> omega
theorem zwa(B M:Nat)(w:World)(tb:Nat)(t:List zaq)(c:zaa)(va vb:Value)(h:TA B w tb t)(hl:t.length<=1000)(hM:∀ e∈t,e.stratum<=M)(hM2:M<=2000000)(hs:SIn lo w va c.head.args)(hb:LIn lo w vb c.body)(hl2:c.body.length<=1000) :
  Calls Tryz.prog 150 #[.pointer (some ⟨tb,0,none⟩),.agg #[.bool c.head.neg,.string c.head.pred,va,vb]] w fun e w'=>e=.returned (.int .i64 (zfr t c))/\Below w.heap.size w w':=by
 obtain⟨ao,cap,rfl⟩:=hs.shape
 obtain⟨aob,capb,rfl⟩:=hb.shape
 have HM:Hid (∀ e∈t,e.stratum<=M):=hM
 clear hM
 go_enter Tryz.func150,Tryz.ntmps150
 go_wp2
 go_loopw [5,13] (fun n i wr=>∃ k m:Nat,k<=c.body.length/\i=.int .i64 k/\n=.int .i64 m/\m<=M+1/\Below w.heap.size w wr/\Hid (m=(c.body.take k).foldl (zfc t) 0)) (fun _ i _=>c.body.length - (intOf i).toNat)
 case atStart=>exact⟨0,0,Nat.zero_le _,rfl,rfl,Nat.zero_le _,(by repeat'(first|with_reducible(first|exact zR _ _|assumption|refine zN ?_ _|refine zA ?_ ?_ _|refine zD ?_|refine zS ?_ ?_ _)|go_size)),rfl⟩
 case round =>
  obtain⟨k,m,hk,rfl,rfl,hm,hbk,H⟩:=hrel
  have hszk:=hbk.size
  by_cases hlt:k < c.body.length
  ·obtain⟨g,ao2,cap2,rfl,hg,hc0,hc1,hc2,hsk⟩:=hb.cell k hlt
   have hd0:=(hbk.cell (p:=⟨g,k * 3,none⟩) hg).trans hc0
   have hd1:=(hbk.cell (p:=⟨g,k * 3+1,none⟩) hg).trans hc1
   have hd2:=(hbk.cell (p:=⟨g,k * 3+2,none⟩) hg).trans hc2
   have hgr:g < wr.heap.size:=by omega
   have HS:Hid ((c.body.take (k+1)).foldl (zfc t) 0=zfc t m c.body[k]):=by rw[Hid,H.out,List.take_succ_eq_append_getElem hlt,List.foldl_append];rfl
   have hta:=h.below hbk
   clear hc0 hc1 hc2 hsk H
   generalize c.body[k]=a at *
   have hls:=z3u HM.out a
   cases hE:zbh t a.pred with
   |none =>
    have HL:Hid (zw6 t a=0):=by unfold Hid zw6;rw[hE]
    have HR:Hid ((c.body.take (k+1)).foldl (zfc t) 0=m):=by rw[Hid,HS.out,zfc,HL.out];simp
    have HE:Hid (zbh t a.pred=none):=hE
    clear HS HL hE hls
    go_wp2_with (first|(go_at_call 159;refine(zyh B _ tb t a.pred (by exact hta.below (by repeat'(first|with_reducible(first|exact zR _ _|assumption|refine zN ?_ _|refine zA ?_ ?_ _|refine zD ?_|refine zS ?_ ?_ _)|go_size))) hl HE).mono ?_;rintro e w1 ⟨rfl,rfl⟩))
    go_roundw
    case rel=>exact⟨k+1,m,by omega,by go_num,rfl,hm,(by repeat'(first|with_reducible(first|exact zR _ _|assumption|refine zN ?_ _|refine zA ?_ ?_ _|refine zD ?_|refine zS ?_ ?_ _)|go_size)),HR.out.symm⟩
    case measure=>simp[intOf];omega
   |some e0 =>
    have HE:Hid (zbh t a.pred=some e0):=hE
    cases hN:a.neg with
    |true =>
     have hL:zw6 t a=e0.stratum+1:=by unfold zw6;rw[hE,hN];rfl
     have HL:Hid (zfc t m a=if m < e0.stratum+1 then e0.stratum+1 else m):=by unfold Hid zfc;rw[hL]
     rw[hN] at hd0
     rw[hL] at hls
     clear hL hE hN
     by_cases hlt2:m < e0.stratum+1
     all_goals
      go_wp2_with (first|(go_at_call 159;refine(zm9 B _ tb t a.pred e0 (by exact hta.below (by repeat'(first|with_reducible(first|exact zR _ _|assumption|refine zN ?_ _|refine zA ?_ ?_ _|refine zD ?_|refine zS ?_ ?_ _)|go_size))) hl HE).mono ?_;rintro e w1 ⟨rfl,rfl⟩))
      go_roundw
      case rel=>first|exact⟨k+1,e0.stratum+1,by omega,by go_num,by go_num,by omega,(by repeat'(first|with_reducible(first|exact zR _ _|assumption|refine zN ?_ _|refine zA ?_ ?_ _|refine zD ?_|refine zS ?_ ?_ _)|go_size)),by rw[Hid,HS.out,HL.out,if_pos hlt2]⟩|exact⟨k+1,m,by omega,by go_num,rfl,hm,(by repeat'(first|with_reducible(first|exact zR _ _|assumption|refine zN ?_ _|refine zA ?_ ?_ _|refine zD ?_|refine zS ?_ ?_ _)|go_size)),by rw[Hid,HS.out,HL.out,if_neg hlt2]⟩
      case measure=>simp[intOf];omega
    |false =>
     have hL:zw6 t a=e0.stratum:=by unfold zw6;rw[hE,hN];rfl
     have HL:Hid (zfc t m a=if m < e0.stratum then e0.stratum else m):=by unfold Hid zfc;rw[hL]
     rw[hN] at hd0
     rw[hL] at hls
     clear hL hE hN
     by_cases hlt2:m < e0.stratum
     all_goals
      go_wp2_with (first|(go_at_call 159;refine(zm9 B _ tb t a.pred e0 (by exact hta.below (by repeat'(first|with_reducible(first|exact zR _ _|assumption|refine zN ?_ _|refine zA ?_ ?_ _|refine zD ?_|refine zS ?_ ?_ _)|go_size))) hl HE).mono ?_;rintro e w1 ⟨rfl,rfl⟩))
      go_roundw
      case rel=>first|exact⟨k+1,e0.stratum,by omega,by go_num,by go_num,by omega,(by repeat'(first|with_reducible(first|exact zR _ _|assumption|refine zN ?_ _|refine zA ?_ ?_ _|refine zD ?_|refine zS ?_ ?_ _)|go_size)),by rw[Hid,HS.out,HL.out,if_pos hlt2]⟩|exact⟨k+1,m,by omega,by go_num,rfl,hm,(by repeat'(first|with_reducible(first|exact zR _ _|assumption|refine zN ?_ _|refine zA ?_ ?_ _|refine zD ?_|refine zS ?_ ?_ _)|go_size)),by rw[Hid,HS.out,HL.out,if_neg hlt2]⟩
      case measure=>simp[intOf];omega
  ·have HR:Hid (m=zfr t c):=by rw[Hid,H.out,List.take_of_length_le (by omega)];rfl
   clear H
   go_wp2
   go_ret
   exact⟨by rw[← HR.out];rfl,hbk⟩
def zey(x:List zaq × Bool)(c:zaa):List zaq × Bool:=((zcd x.1 c.head.pred (zfr x.1 c)).1,x.2 || (zcd x.1 c.head.pred (zfr x.1 c)).2)
def zb5(t:List zaq)(cs:List zaa):List zaq × Bool:=cs.foldl zey (t,false)
theorem z8g{t:List zaq}{n:ByteArray}{s M:Nat}(h:∀ e∈t,e.stratum<=M)(hs:s<=M):∀ e∈(zcd t n s).1,e.stratum<=M:=by
 unfold zcd
 split
 ·exact h
 ·split
  ·exact h
  ·intro e he
   rcases List.mem_or_eq_of_mem_set he with he|he
   ·exact h e he
   ·subst he;exact hs
theorem zow{α β:Type}(f:β->α->β)(b:β)(l:List α)(k:Nat)(hk:k < l.length):(l.take (k+1)).foldl f b=f ((l.take k).foldl f b) l[k]:=by rw[List.take_succ_eq_append_getElem hk,List.foldl_append];rfl
theorem zqw(B M:Nat)(w:World)(tb:Nat)(t:List zaq)(v:Value)(cs:List zaa)(w0:World)(hw0:w0.heap.size=B)(hb0:Below B w0 w)(hcs:CIn lo 171 w0 v cs)(hok:∀ c∈cs,zqi c)(_:cs.length<=1000)
  (h:TA B w tb t) (hl:t.length<=1000) (hM:∀ e∈t,e.stratum<=M) (hM2:M+cs.length<=1900000) :
  Calls Tryz.prog 104 #[.pointer (some ⟨tb,0,none⟩),v] w fun e w'=>e=.returned (.bool (zb5 t cs).2)/\TA B w' tb (zb5 t cs).1/\Below B w w'/\(zb5 t cs).1.length=t.length/\(∀ e∈(zb5 t cs).1,e.stratum<=M+cs.length):=by
 obtain⟨ao,cap,rfl⟩:=hcs.shape
 have HOK:Hid (∀ c∈cs,zqi c):=hok
 have hsz0:=hb0.size
 clear hok
 go_enter Tryz.func104,Tryz.ntmps104
 go_wp2
 go_loopw [5,11] (fun r i wr=>∃ k:Nat,k<=cs.length/\i=.int .i64 k/\r=.bool ((cs.take k).foldl zey (t,false)).2/\Below B w wr/\TA B wr tb ((cs.take k).foldl zey (t,false)).1/\((cs.take k).foldl zey (t,false)).1.length=t.length/\Hid (∀ e∈((cs.take k).foldl zey (t,false)).1,e.stratum<=M+k)) (fun _ i _=>cs.length - (intOf i).toNat)
 case atStart=>exact⟨0,Nat.zero_le _,rfl,rfl,Below.refl _ _,h,rfl,hM⟩
 case round =>
  obtain⟨k,hk,rfl,rfl,hbk',htk,hlk,HM⟩:=hrel
  have hbk:Below w0.heap.size w0 wr:=by rw[hw0];exact hb0.trans hbk'
  have hszk:=hbk'.size
  by_cases hlt:k < cs.length
  ·have hsn:=zow zey (t,false) cs k hlt
   obtain⟨g,ao2,cap2,ao3,cap3,rfl,hg,hc0,hc1,hc2,hc3,hsk,hllk⟩:=hcs.cell k hlt
   have hd0:=(hbk.cell (p:=⟨g,k * 4,none⟩) (by omega)).trans hc0
   have hd1:=(hbk.cell (p:=⟨g,k * 4+1,none⟩) (by omega)).trans hc1
   have hd2:=(hbk.cell (p:=⟨g,k * 4+2,none⟩) (by omega)).trans hc2
   have hd3:=(hbk.cell (p:=⟨g,k * 4+3,none⟩) (by omega)).trans hc3
   have hgr:g < wr.heap.size:=by omega
   have hskr:=hsk.below hbk
   have hlkr:=hllk.below hbk
   obtain⟨hk1,hk2⟩:=HOK.out _ (List.getElem_mem hlt)
   clear hc0 hc1 hc2 hc3 hsk hllk
   generalize cs[k]=a at *
   generalize (cs.take k).foldl zey (t,false)=x at *
   obtain⟨tk,rk⟩:=x
   simp only at htk hlk HM ⊢
   have HS:Hid ((cs.take (k+1)).foldl zey (t,false)=zey (tk,rk) a):=hsn
   clear hsn
   have hll:zfr tk a<=M+k+1:=zuz HM.out a.body 0 (by omega)
   have hrl:=z1c tk a.head.pred (zfr tk a)
   have HB:Hid (∀ e∈(zcd tk a.head.pred (zfr tk a)).1,e.stratum<=M+(k+1)):=z8g (fun e he=>by have:=HM.out e he;omega) (by omega)
   cases hR:(zcd tk a.head.pred (zfr tk a)).2 with
   |true =>
    have H1:Hid (((cs.take (k+1)).foldl zey (t,false))=((zcd tk a.head.pred (zfr tk a)).1,true)):=by rw[Hid,HS.out,zey];simp[hR]
    clear HS
    go_wp2_with (first|(go_at_call 150;refine(zwa B (M+k) _ tb tk a _ _ (by exact htk.below (by repeat'(first|with_reducible(first|exact zR _ _|assumption|refine zN ?_ _|refine zA ?_ ?_ _|refine zD ?_|refine zS ?_ ?_ _)|go_size))) (by omega) HM.out (by omega) (by exact hskr.below (by repeat'(first|with_reducible(first|exact zR _ _|assumption|refine zN ?_ _|refine zA ?_ ?_ _|refine zD ?_|refine zS ?_ ?_ _)|go_size))) (by exact hlkr.below (by repeat'(first|with_reducible(first|exact zR _ _|assumption|refine zN ?_ _|refine zA ?_ ?_ _|refine zD ?_|refine zS ?_ ?_ _)|go_size))) hk2).mono ?_;rintro e w1 ⟨rfl,hb1⟩;have hB1:=zad ((Below.refl wr.heap.size wr).alloc (Nat.le_refl _) _) hb1 (Nat.le_refl _);have ht1:=htk.below hB1;have hz1:=hB1.size;have hbx1:=(Box.new wr _ _).below hb1;obtain⟨hxc,hxf⟩:=hbx1.rules)|(go_at_call 151;refine(raise_any B _ tb tk a.head.pred (zfr tk a) ht1 (by omega) (by omega)).mono ?_;rintro e w2 ⟨rfl,ht2,hb2⟩))
    go_roundw
    case rel=>exact⟨k+1,by omega,by go_num,by rw[H1.out],(hbk'.trans (hB1.mono (by omega))).trans hb2,by rw[H1.out];exact ht2,by rw[H1.out];simp only;omega,by rw[H1.out];exact HB⟩
    case measure=>simp[intOf];omega
   |false =>
    have H1:Hid (((cs.take (k+1)).foldl zey (t,false))=((zcd tk a.head.pred (zfr tk a)).1,rk)):=by rw[Hid,HS.out,zey];simp[hR]
    clear HS
    go_wp2_with (first|(go_at_call 150;refine(zwa B (M+k) _ tb tk a _ _ (by exact htk.below (by repeat'(first|with_reducible(first|exact zR _ _|assumption|refine zN ?_ _|refine zA ?_ ?_ _|refine zD ?_|refine zS ?_ ?_ _)|go_size))) (by omega) HM.out (by omega) (by exact hskr.below (by repeat'(first|with_reducible(first|exact zR _ _|assumption|refine zN ?_ _|refine zA ?_ ?_ _|refine zD ?_|refine zS ?_ ?_ _)|go_size))) (by exact hlkr.below (by repeat'(first|with_reducible(first|exact zR _ _|assumption|refine zN ?_ _|refine zA ?_ ?_ _|refine zD ?_|refine zS ?_ ?_ _)|go_size))) hk2).mono ?_;rintro e w1 ⟨rfl,hb1⟩;have hB1:=zad ((Below.refl wr.heap.size wr).alloc (Nat.le_refl _) _) hb1 (Nat.le_refl _);have ht1:=htk.below hB1;have hz1:=hB1.size;have hbx1:=(Box.new wr _ _).below hb1;obtain⟨hxc,hxf⟩:=hbx1.rules)|(go_at_call 151;refine(raise_any B _ tb tk a.head.pred (zfr tk a) ht1 (by omega) (by omega)).mono ?_;rintro e w2 ⟨rfl,ht2,hb2⟩))
    go_roundw
    case rel=>exact⟨k+1,by omega,by go_num,by rw[H1.out],(hbk'.trans (hB1.mono (by omega))).trans hb2,by rw[H1.out];exact ht2,by rw[H1.out];simp only;omega,by rw[H1.out];exact HB⟩
    case measure=>simp[intOf];omega
  ·have hE:cs.take k=cs:=List.take_of_length_le (by omega)
   rw[hE] at htk hlk HM ⊢
   have hkl:k=cs.length:=by omega
   have HM2:Hid (∀ e∈(zb5 t cs).1,e.stratum<=M+cs.length):=by rw[← hkl];exact HM
   clear hE HM
   go_wp2
   go_ret
   exact⟨rfl,htk,hbk',hlk,HM2⟩
def zdb:Nat->List zaq->List zaa->List zaq × Bool
 |0,t,_=>(t,false)
 |m+1,t,cs=>if (zb5 t cs).2 then zdb m (zb5 t cs).1 cs else((zb5 t cs).1,true)
theorem znk(B:Nat)(w:World)(tb:Nat)(t:List zaq)(v:Value)(cs:List zaa)(w0:World)(hw0:w0.heap.size=B)(hb0:Below B w0 w)(hcs:CIn lo 171 w0 v cs)(hok:∀ c∈cs,zqi c)(hl0:cs.length<=1000)
  (h:TA B w tb t) (hl:t.length<=1000) (hM:∀ e∈t,e.stratum<=0) :
  Calls Tryz.prog 64 #[.pointer (some ⟨tb,0,none⟩),v] w fun e w'=>e=.returned (.bool (zdb (t.length+1) t cs).2)/\TA B w' tb (zdb (t.length+1) t cs).1/\Below B w w':=by
 have HOK:Hid (∀ c∈cs,zqi c):=hok
 have HW:Hid (w0.heap.size=B):=hw0
 clear hok hw0
 go_enter Tryz.func64,Tryz.ntmps64
 go_wp2
 go_loopw [5] (fun i wr=>∃(p:Nat) (tk:List zaq),p<=t.length+1/\i=.int .i64 p/\Below B w wr/\TA B wr tb tk/\tk.length=t.length/\Hid (∀ e∈tk,e.stratum<=p * cs.length)/\Hid (zdb (t.length+1) t cs=zdb (t.length+1 - p) tk cs)) (fun i _=>t.length+1 - (intOf i).toNat)
 case atStart=>exact⟨0,t,Nat.zero_le _,rfl,Below.refl _ _,h,rfl,(by simpa [Hid] using hM),rfl⟩
 case round =>
  obtain⟨p,tk,hp,rfl,hbk,htk,hlk,HM,H⟩:=hrel
  obtain⟨ao,cap,hbx,hown⟩:=htk.view
  obtain⟨hc,hf⟩:=hbx.rules
  rw[hlk] at hc hbx hown
  by_cases hlt:p<=t.length
  ·have hmul:p * cs.length<=1000 * 1000:=Nat.mul_le_mul (by omega) hl0
   have hra:=zqw B (p * cs.length) wr tb tk v cs w0 HW.out (hb0.trans hbk) hcs HOK.out hl0 htk (by omega) HM.out (by omega)
   have HRA:Hid (Calls Tryz.prog 104 #[.pointer (some ⟨tb,0,none⟩),v] wr fun e w'=>e=.returned (.bool (zb5 tk cs).2)/\TA B w' tb (zb5 tk cs).1/\Below B wr w'/\(zb5 tk cs).1.length=tk.length/\(∀ e∈(zb5 tk cs).1,e.stratum<=p * cs.length+cs.length)):=hra
   have hs1:t.length+1 - p=(t.length - p)+1:=by omega
   have HE:Hid (zdb (t.length+1) t cs=if (zb5 tk cs).2 then zdb (t.length - p) (zb5 tk cs).1 cs else((zb5 tk cs).1,true)):=by rw[Hid,H.out,hs1];rfl
   clear hra hs1 H
   have hpp:p * cs.length+cs.length=(p+1) * cs.length:=by rw[Nat.add_mul];omega
   have HPP:Hid (p * cs.length+cs.length=(p+1) * cs.length):=hpp
   clear hpp hmul HM
   cases hR:(zb5 tk cs).2 with
   |true =>
    have H2:Hid (zdb (t.length+1) t cs=zdb (t.length+1 - (p+1)) (zb5 tk cs).1 cs):=by rw[Hid,HE.out,hR];simp
    clear HE
    rw[hR] at HRA
    clear hR
    generalize (zb5 tk cs).1=tn at *
    go_wp2_with (first|(go_at_call 104;refine HRA.out.mono ?_;rintro e w1 ⟨rfl,ht1,hb1,hl1,hm1⟩;clear HRA))
    go_roundw
    case rel=>exact⟨p+1,tn,by omega,by go_num,hbk.trans hb1,ht1,by omega,by rw[HPP.out] at hm1;exact hm1,H2⟩
    case measure=>simp[intOf];omega
   |false =>
    have H2:Hid (zdb (t.length+1) t cs=((zb5 tk cs).1,true)):=by rw[Hid,HE.out,hR];simp
    clear HE
    rw[hR] at HRA
    clear hR
    generalize (zb5 tk cs).1=tn at *
    go_wp2_with (first|(go_at_call 104;refine HRA.out.mono ?_;rintro e w1 ⟨rfl,ht1,hb1,hl1,hm1⟩;clear HRA))
    go_ret
    exact⟨by rw[H2.out];rfl,by rw[H2.out];exact ht1,hbk.trans hb1⟩
  ·have H2:Hid (zdb (t.length+1) t cs=(tk,false)):=by rw[Hid,H.out,show t.length+1 - p=0 by omega];rfl
   clear H
   go_wp2
   go_ret
   exact⟨by rw[H2.out];rfl,by rw[H2.out];exact htk,hbk⟩
end Go.Proofs.YteampbddflhngaaGreat
