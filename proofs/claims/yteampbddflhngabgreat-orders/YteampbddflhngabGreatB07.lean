import Derived.Test.YteampbddflhngabGreatB06

namespace Go.Proofs.YteampbddflhngabGreat
set_option maxRecDepth 100000
set_option maxHeartbeats 1000000
open Go.RowKit
theorem zbu{w:World}{base:Nat}{e:TypeId}{size:Nat}{g n cap:Nat}{m:Nat}{xs:List Value}(h:w.ownsRow base e size (.slice (some ⟨g,0,none⟩) n cap) m xs)(o:Nat):w.frozen? ⟨g,o,none⟩=false:=by
 obtain⟨_,⟨hv,_⟩|⟨g',cap',cur,hv,_,hh,_⟩⟩:=h
 ·cases hv
 ·simp at hv;obtain⟨rfl,_⟩:=hv;unfold World.frozen?;rw[hh];simp
theorem zb5{w:World}{base:Nat}{e:TypeId}{size:Nat}{g n cap:Nat}{m:Nat}{xs:List Value}(h:w.ownsRow base e size (.slice (some ⟨g,0,none⟩) n cap) m xs)(j:Nat)(_:j < xs.length)(u:Value) :
  (w.setCell ⟨g,j,none⟩ u).ownsRow base e size (.slice (some ⟨g,0,none⟩) n cap) m (xs.set j u):=by
 obtain⟨hl,⟨hv,_⟩|⟨g',cap',cur,hv,hg,hh,h1,h2,h3,h4⟩⟩:=h
 ·cases hv
 ·simp at hv;obtain⟨rfl,rfl,rfl⟩:=hv
  refine⟨by simpa using hl,Or.inr ⟨g,cap,cur.setIfInBounds j u,rfl,hg,?_,h1,h2,by simpa using h3,?_⟩⟩
  ·simp[World.setCell,Array.getElem?_modify,hh]
  ·rw[← h4]
   rw[Array.toList_setIfInBounds,List.take_set]
def zbj(t:List zao)(n:ByteArray):Option zao:=match t[zaj t n]? with
 |none=>none
 |some e=>if e.name=n then some e else none
theorem zci{t:List zao}{n:ByteArray}{e:zao}(h:zbj t n=some e):∃ hk:zaj t n < t.length,t[zaj t n]=e/\e.name=n:=by
 unfold zbj at h
 split at h
 ·cases h
 ·rename_i e' he
  split at h <;> simp at h
  subst h
  obtain⟨hk,he⟩:=List.getElem?_eq_some_iff.1 he
  exact⟨hk,he,by assumption⟩
theorem zj4{t:List zao}{n:ByteArray}(h:zbj t n=none):¬ zaj t n < t.length∨∃ hk:zaj t n < t.length,t[zaj t n].name≠n:=by
 unfold zbj at h
 split at h
 ·rename_i he;left;rw[List.getElem?_eq_none_iff] at he;omega
 ·rename_i e he
  split at h <;> simp at h
  obtain⟨hk,he⟩:=List.getElem?_eq_some_iff.1 he
  right;exact⟨hk,by rw[he];assumption⟩
theorem zye(B:Nat)(w:World)(tb:Nat)(t:List zao)(n:ByteArray)(h:TA B w tb t)(hl:t.length<=1000)(hn:zbj t n=none) :
  Calls Tryz.prog 50 #[.pointer (some ⟨tb,0,none⟩),.string n] w fun e w'=>e=.returned (.tuple #[.int .i64 0,.bool false])/\w'=w:=by
 have hpl:=zlw B w tb t n h hl
 obtain⟨ao,cap,hbx,hown⟩:=h.view
 obtain⟨hc,hf⟩:=hbx.rules
 have HPL:Hid (Calls Tryz.prog 78 #[.pointer (some ⟨tb,0,none⟩),.string n] w fun e w'=>e=.returned (.int .i64 (zaj t n))/\w'=w):=hpl
 have hle:=zfi t n
 clear h hpl
 rcases zj4 hn with hk|⟨hk,hne⟩
 ·clear hn
  generalize zaj t n=k at *
  go_enter Tryz.func50,Tryz.ntmps50
  go_wp2_with (first|(go_at_call 78;refine HPL.out.mono ?_;rintro e w' ⟨rfl,rfl⟩;clear HPL))
  go_ret2
  exact⟨rfl,rfl⟩
 ·obtain⟨g,rfl,hg,_,hd0,_,_⟩:=zd0 hown _ hk
  have he:=zem hne
  clear hn hne
  generalize t[zaj t n].name=x at *
  generalize zaj t n=k at *
  go_enter Tryz.func50,Tryz.ntmps50
  go_wp2_with (first|(go_at_call 78;refine HPL.out.mono ?_;rintro e w' ⟨rfl,rfl⟩;clear HPL))
  go_ret2
  exact⟨rfl,rfl⟩
theorem zuy(B:Nat)(w:World)(tb:Nat)(t:List zao)(n:ByteArray)(e0:zao)(h:TA B w tb t)(hl:t.length<=1000)(hn:zbj t n=some e0) :
  Calls Tryz.prog 50 #[.pointer (some ⟨tb,0,none⟩),.string n] w fun e w'=>e=.returned (.tuple #[.int .i64 (zaj t n),.bool true])/\w'=w:=by
 have hpl:=zlw B w tb t n h hl
 obtain⟨ao,cap,hbx,hown⟩:=h.view
 obtain⟨hc,hf⟩:=hbx.rules
 have HPL:Hid (Calls Tryz.prog 78 #[.pointer (some ⟨tb,0,none⟩),.string n] w fun e w'=>e=.returned (.int .i64 (zaj t n))/\w'=w):=hpl
 have hle:=zfi t n
 clear h hpl
 obtain⟨hk,hee,hnn⟩:=zci hn
 obtain⟨g,rfl,hg,_,hd0,_,hd2⟩:=zd0 hown _ hk
 rw[hee] at hd0 hd2
 have he:=zfh hnn
 clear hn hnn hee
 generalize e0.name=x at *
 generalize zaj t n=k at *
 go_enter Tryz.func50,Tryz.ntmps50
 go_wp2_with (first|(go_at_call 78;refine HPL.out.mono ?_;rintro e w' ⟨rfl,rfl⟩;clear HPL))
 go_ret2
 exact⟨rfl,rfl⟩
theorem zxk(B:Nat)(w:World)(tb:Nat)(t:List zao)(n:ByteArray)(h:TA B w tb t)(hl:t.length<=1000)(hn:zbj t n=none) :
  Calls Tryz.prog 56 #[.pointer (some ⟨tb,0,none⟩),.string n] w fun e w'=>e=.returned (.tuple #[.int .i64 0,.bool false])/\w'=w:=by
 have HF:Hid (Calls Tryz.prog 50 #[.pointer (some ⟨tb,0,none⟩),.string n] w fun e w'=>e=.returned (.tuple #[.int .i64 0,.bool false])/\w'=w):=zye B w tb t n h hl hn
 clear h hn hl
 go_enter Tryz.func56,Tryz.ntmps56
 go_wp2_with (first|(go_at_call 50;refine HF.out.mono ?_;rintro e w' ⟨rfl,rfl⟩;clear HF))
 go_ret2
 exact⟨rfl,rfl⟩
theorem zm4(B:Nat)(w:World)(tb:Nat)(t:List zao)(n:ByteArray)(e0:zao)(h:TA B w tb t)(hl:t.length<=1000)(hn:zbj t n=some e0) :
  Calls Tryz.prog 56 #[.pointer (some ⟨tb,0,none⟩),.string n] w fun e w'=>e=.returned (.tuple #[.int .i64 e0.stratum,.bool true])/\w'=w:=by
 have HF:Hid (Calls Tryz.prog 50 #[.pointer (some ⟨tb,0,none⟩),.string n] w fun e w'=>e=.returned (.tuple #[.int .i64 (zaj t n),.bool true])/\w'=w):=zuy B w tb t n e0 h hl hn
 obtain⟨ao,cap,hbx,hown⟩:=h.view
 obtain⟨hc,hf⟩:=hbx.rules
 obtain⟨hk,hee,hnn⟩:=zci hn
 obtain⟨g,rfl,hg,_,hd0,_,hd2⟩:=zd0 hown _ hk
 rw[hee] at hd2
 clear hn hnn hee h hd0
 generalize zaj t n=k at *
 go_enter Tryz.func56,Tryz.ntmps56
 go_wp2_with (first|(go_at_call 50;refine HF.out.mono ?_;rintro e w' ⟨rfl,rfl⟩;clear HF))
 go_ret2
 exact⟨rfl,rfl⟩
theorem zqw:∀(t:List zao) (k:Nat) (e:zao) (hk:k < t.length),t[k].name=e.name->t[k].arity=e.arity->(zce t).set (k * 3+2) (.int .i64 (e.stratum:Int))=zce (t.set k e)
 |[],k,_,hk,_,_=>by simp at hk
 |a::r,0,e,_,h1,h2=>by simp at h1 h2;simp[zce,h1,h2]
 |a::r,k+1,e,hk,h1,h2=>by
  have:=zqw r k e (by simpa using hk) (by simpa using h1) (by simpa using h2)
  simp only[zce,List.flatMap_cons,List.set_cons_succ] at this ⊢
  rw[show(k+1) * 3+2=k * 3+2+1+1+1 from by omega]
  simpa using this
def zcf(t:List zao)(n:ByteArray)(s:Nat):List zao × Bool:=match zbj t n with
 |none=>(t,false)
 |some e=>if s<=e.stratum then(t,false) else(t.set (zaj t n) { e with stratum:=s },true)
theorem z0w(t:List zao)(n:ByteArray)(s:Nat):(zcf t n s).1.length=t.length:=by
 unfold zcf;split
 ·rfl
 ·split <;> simp
theorem raise_any(B:Nat)(w:World)(tb:Nat)(t:List zao)(n:ByteArray)(s:Nat)(h:TA B w tb t)(hl:t.length<=1000)(_:s<=3000000) :
  Calls Tryz.prog 96 #[.pointer (some ⟨tb,0,none⟩),.string n,.int .i64 s] w fun e w'=>e=.returned (.bool (zcf t n s).2)/\TA B w' tb (zcf t n s).1/\Below B w w':=by
 obtain⟨ao,cap,hbx,hown⟩:=h.view
 obtain⟨hc,hf⟩:=hbx.rules
 have hle:=zfi t n
 have HT:Hid (TA B w tb t):=h
 cases hn:zbj t n with
 |none =>
  have HR:Hid (zcf t n s=(t,false)):=by unfold Hid zcf;rw[hn]
  have HF:Hid (Calls Tryz.prog 50 #[.pointer (some ⟨tb,0,none⟩),.string n] w fun e w'=>e=.returned (.tuple #[.int .i64 0,.bool false])/\w'=w):=zye B w tb t n h hl hn
  rw[HR.out]
  clear hn HR h
  go_enter Tryz.func96,Tryz.ntmps96
  go_wp2_with (first|(go_at_call 50;refine HF.out.mono ?_;rintro e w' ⟨rfl,rfl⟩;clear HF))
  go_ret
  exact⟨rfl,HT,Below.refl _ _⟩
 |some e0 =>
  have HF:Hid (Calls Tryz.prog 50 #[.pointer (some ⟨tb,0,none⟩),.string n] w fun e w'=>e=.returned (.tuple #[.int .i64 (zaj t n),.bool true])/\w'=w):=zuy B w tb t n e0 h hl hn
  obtain⟨hk,hee,hnn⟩:=zci hn
  obtain⟨g,rfl,hg,hBg,hd0,_,hd2⟩:=zd0 hown _ hk
  have hfz:=zbu hown
  by_cases hse:s<=e0.stratum
  ·have HR:Hid (zcf t n s=(t,false)):=by unfold Hid zcf;rw[hn];simp[hse]
   rw[HR.out]
   rw[hee] at hd0 hd2
   clear hn hnn HR hee h hd0
   generalize zaj t n=k at *
   go_enter Tryz.func96,Tryz.ntmps96
   go_wp2_with (first|(go_at_call 50;refine HF.out.mono ?_;rintro e w' ⟨rfl,rfl⟩;clear HF))
   go_ret
   exact⟨rfl,HT,Below.refl _ _⟩
  ·have HR:Hid (zcf t n s=(t.set (zaj t n) { e0 with stratum:=s },true)):=by unfold Hid zcf;rw[hn];simp[hse]
   rw[HR.out]
   have hset:=zb5 hown (zaj t n * 3+2) (by rw[zmy];omega) (.int .i64 (s:Int))
   rw[zqw t (zaj t n) { e0 with stratum:=s } hk (by rw[hee]) (by rw[hee])] at hset
   have hneg:tb≠g:=by
    intro hgg;subst hgg
    obtain⟨_,⟨hv,_⟩|⟨g',cap',cur,hv,_,hh,_⟩⟩:=hown
    ·cases hv
    ·simp at hv;obtain⟨rfl,_⟩:=hv;unfold Box at hbx;rw[hh] at hbx;simp at hbx
   have hbx2:=hbx.set_ne hneg (zaj t n * 3+2) (.int .i64 (s:Int))
   have HFT:Hid (TA B (w.setCell ⟨g,zaj t n * 3+2,none⟩ (.int .i64 (s:Int))) tb (t.set (zaj t n) { e0 with stratum:=s })):=⟨_,hbx2,by simpa using hset⟩
   have hse':e0.stratum < s:=by omega
   rw[hee] at hd0 hd2
   clear hn hnn HR hee hset hbx2 hse h hd0
   generalize t.set (zaj t n) { e0 with stratum:=s }=t2 at *
   generalize zaj t n=k at *
   go_enter Tryz.func96,Tryz.ntmps96
   go_wp2_with (first|(go_at_call 50;refine HF.out.mono ?_;rintro e w' ⟨rfl,rfl⟩;clear HF))
   go_ret
   exact⟨rfl,HFT,(Below.refl _ _).setCell hBg _⟩
end Go.Proofs.YteampbddflhngabGreat

namespace Go.Proofs.YteampbddflhngabGreat
set_option maxRecDepth 100000
set_option maxHeartbeats 1000000
open Go.RowKit
variable {lo:Nat}
def zvz(t:List zao)(l:zb2):Nat:=match zbj t l.pred with
 |none=>0
 |some e=>if l.neg then e.stratum+1 else e.stratum
def zfd(t:List zao)(n:Nat)(l:zb2):Nat:=if n < zvz t l then zvz t l else n
def zfm(t:List zao)(c:zab):Nat:=c.body.foldl (zfd t) 0
theorem z19{t:List zao}{M:Nat}(h:∀ e∈t,e.stratum<=M)(l:zb2):zvz t l<=M+1:=by
 unfold zvz
 split
 ·omega
 ·rename_i e he
  obtain⟨hk,hee,_⟩:=zci he
  have:=h e (by rw[← hee];exact List.getElem_mem hk)
  split <;> omega
theorem zt3{t:List zao}{M:Nat}(h:∀ e∈t,e.stratum<=M):∀(ls:List zb2) (n:Nat),n<=M+1->ls.foldl (zfd t) n<=M+1
 |[],n,hn=>hn
 |l::ls,n,hn=>by
  refine zt3 h ls _ ?_
  unfold zfd;have:=z19 h l;split <;> omega
theorem zt0(B M:Nat)(w:World)(tb:Nat)(t:List zao)(c:zab)(va vb:Value)(h:TA B w tb t)(hl:t.length<=1000)(hM:∀ e∈t,e.stratum<=M)(hM2:M<=2000000)(hs:SIn lo w va c.head.args)(hb:LIn lo w vb c.body)(hl2:c.body.length<=1000) :
  Calls Tryz.prog 95 #[.pointer (some ⟨tb,0,none⟩),.agg #[.bool c.head.neg,.string c.head.pred,va,vb]] w fun e w'=>e=.returned (.int .i64 (zfm t c))/\Below w.heap.size w w':=by
 obtain⟨ao,cap,rfl⟩:=hs.shape
 obtain⟨aob,capb,rfl⟩:=hb.shape
 have HM:Hid (∀ e∈t,e.stratum<=M):=hM
 clear hM
 go_enter Tryz.func95,Tryz.ntmps95
 go_wp2
 go_loopw [5,13] (fun n i wr=>∃ k m:Nat,k<=c.body.length/\i=.int .i64 k/\n=.int .i64 m/\m<=M+1/\Below w.heap.size w wr/\Hid (m=(c.body.take k).foldl (zfd t) 0)) (fun _ i _=>c.body.length - (intOf i).toNat)
 case atStart=>exact⟨0,0,Nat.zero_le _,rfl,rfl,Nat.zero_le _,(by repeat'(first|with_reducible(first|exact zR _ _|assumption|refine zN ?_ _|refine zA ?_ ?_ _|refine zD ?_|refine zS ?_ ?_ _)|go_size)),rfl⟩
 case round =>
  obtain⟨k,m,hk,rfl,rfl,hm,hbk,H⟩:=hrel
  have hszk:=hbk.size
  by_cases hlt:k < c.body.length
  ·obtain⟨g,ao2,cap2,rfl,hg,hc0,hc1,hc2,hsk⟩:=hb.cell k hlt
   have hd0:=(hbk.cell (p:=⟨g,k * 3,none⟩) hg).trans hc0
   have hd1:=(hbk.cell (p:=⟨g,k * 3+1,none⟩) hg).trans hc1
   have hd2:=(hbk.cell (p:=⟨g,k * 3+2,none⟩) hg).trans hc2
   have hgr:g < wr.heap.size:=by omega
   have HS:Hid ((c.body.take (k+1)).foldl (zfd t) 0=zfd t m c.body[k]):=by rw[Hid,H.out,List.take_succ_eq_append_getElem hlt,List.foldl_append];rfl
   have hta:=h.below hbk
   clear hc0 hc1 hc2 hsk H
   generalize c.body[k]=a at *
   have hls:=z19 HM.out a
   cases hE:zbj t a.pred with
   |none =>
    have HL:Hid (zvz t a=0):=by unfold Hid zvz;rw[hE]
    have HR:Hid ((c.body.take (k+1)).foldl (zfd t) 0=m):=by rw[Hid,HS.out,zfd,HL.out];simp
    have HE:Hid (zbj t a.pred=none):=hE
    clear HS HL hE hls
    go_wp2_with (first|(go_at_call 56;refine(zxk B _ tb t a.pred (by exact hta.below (by repeat'(first|with_reducible(first|exact zR _ _|assumption|refine zN ?_ _|refine zA ?_ ?_ _|refine zD ?_|refine zS ?_ ?_ _)|go_size))) hl HE).mono ?_;rintro e w1 ⟨rfl,rfl⟩))
    go_roundw
    case rel=>exact⟨k+1,m,by omega,by go_num,rfl,hm,(by repeat'(first|with_reducible(first|exact zR _ _|assumption|refine zN ?_ _|refine zA ?_ ?_ _|refine zD ?_|refine zS ?_ ?_ _)|go_size)),HR.out.symm⟩
    case measure=>simp[intOf];omega
   |some e0 =>
    have HE:Hid (zbj t a.pred=some e0):=hE
    cases hN:a.neg with
    |true =>
     have hL:zvz t a=e0.stratum+1:=by unfold zvz;rw[hE,hN];rfl
     have HL:Hid (zfd t m a=if m < e0.stratum+1 then e0.stratum+1 else m):=by unfold Hid zfd;rw[hL]
     rw[hN] at hd0
     rw[hL] at hls
     clear hL hE hN
     by_cases hlt2:m < e0.stratum+1
     all_goals
      go_wp2_with (first|(go_at_call 56;refine(zm4 B _ tb t a.pred e0 (by exact hta.below (by repeat'(first|with_reducible(first|exact zR _ _|assumption|refine zN ?_ _|refine zA ?_ ?_ _|refine zD ?_|refine zS ?_ ?_ _)|go_size))) hl HE).mono ?_;rintro e w1 ⟨rfl,rfl⟩))
      go_roundw
      case rel=>first|exact⟨k+1,e0.stratum+1,by omega,by go_num,by go_num,by omega,(by repeat'(first|with_reducible(first|exact zR _ _|assumption|refine zN ?_ _|refine zA ?_ ?_ _|refine zD ?_|refine zS ?_ ?_ _)|go_size)),by rw[Hid,HS.out,HL.out,if_pos hlt2]⟩|exact⟨k+1,m,by omega,by go_num,rfl,hm,(by repeat'(first|with_reducible(first|exact zR _ _|assumption|refine zN ?_ _|refine zA ?_ ?_ _|refine zD ?_|refine zS ?_ ?_ _)|go_size)),by rw[Hid,HS.out,HL.out,if_neg hlt2]⟩
      case measure=>simp[intOf];omega
    |false =>
     have hL:zvz t a=e0.stratum:=by unfold zvz;rw[hE,hN];rfl
     have HL:Hid (zfd t m a=if m < e0.stratum then e0.stratum else m):=by unfold Hid zfd;rw[hL]
     rw[hN] at hd0
     rw[hL] at hls
     clear hL hE hN
     by_cases hlt2:m < e0.stratum
     all_goals
      go_wp2_with (first|(go_at_call 56;refine(zm4 B _ tb t a.pred e0 (by exact hta.below (by repeat'(first|with_reducible(first|exact zR _ _|assumption|refine zN ?_ _|refine zA ?_ ?_ _|refine zD ?_|refine zS ?_ ?_ _)|go_size))) hl HE).mono ?_;rintro e w1 ⟨rfl,rfl⟩))
      go_roundw
      case rel=>first|exact⟨k+1,e0.stratum,by omega,by go_num,by go_num,by omega,(by repeat'(first|with_reducible(first|exact zR _ _|assumption|refine zN ?_ _|refine zA ?_ ?_ _|refine zD ?_|refine zS ?_ ?_ _)|go_size)),by rw[Hid,HS.out,HL.out,if_pos hlt2]⟩|exact⟨k+1,m,by omega,by go_num,rfl,hm,(by repeat'(first|with_reducible(first|exact zR _ _|assumption|refine zN ?_ _|refine zA ?_ ?_ _|refine zD ?_|refine zS ?_ ?_ _)|go_size)),by rw[Hid,HS.out,HL.out,if_neg hlt2]⟩
      case measure=>simp[intOf];omega
  ·have HR:Hid (m=zfm t c):=by rw[Hid,H.out,List.take_of_length_le (by omega)];rfl
   clear H
   go_wp2
   go_ret
   exact⟨by rw[← HR.out];rfl,hbk⟩
def zex(x:List zao × Bool)(c:zab):List zao × Bool:=((zcf x.1 c.head.pred (zfm x.1 c)).1,x.2 || (zcf x.1 c.head.pred (zfm x.1 c)).2)
def zb6(t:List zao)(cs:List zab):List zao × Bool:=cs.foldl zex (t,false)
theorem z6b{t:List zao}{n:ByteArray}{s M:Nat}(h:∀ e∈t,e.stratum<=M)(hs:s<=M):∀ e∈(zcf t n s).1,e.stratum<=M:=by
 unfold zcf
 split
 ·exact h
 ·split
  ·exact h
  ·intro e he
   rcases List.mem_or_eq_of_mem_set he with he|he
   ·exact h e he
   ·subst he;exact hs
theorem zo9{α β:Type}(f:β->α->β)(b:β)(l:List α)(k:Nat)(hk:k < l.length):(l.take (k+1)).foldl f b=f ((l.take k).foldl f b) l[k]:=by rw[List.take_succ_eq_append_getElem hk,List.foldl_append];rfl
theorem zp4(B M:Nat)(w:World)(tb:Nat)(t:List zao)(v:Value)(cs:List zab)(w0:World)(hw0:w0.heap.size=B)(hb0:Below B w0 w)(hcs:CIn lo 90 w0 v cs)(hok:∀ c∈cs,zn9 c)(_:cs.length<=1000)
  (h:TA B w tb t) (hl:t.length<=1000) (hM:∀ e∈t,e.stratum<=M) (hM2:M+cs.length<=1900000) :
  Calls Tryz.prog 65 #[.pointer (some ⟨tb,0,none⟩),v] w fun e w'=>e=.returned (.bool (zb6 t cs).2)/\TA B w' tb (zb6 t cs).1/\Below B w w'/\(zb6 t cs).1.length=t.length/\(∀ e∈(zb6 t cs).1,e.stratum<=M+cs.length):=by
 obtain⟨ao,cap,rfl⟩:=hcs.shape
 have HOK:Hid (∀ c∈cs,zn9 c):=hok
 have hsz0:=hb0.size
 clear hok
 go_enter Tryz.func65,Tryz.ntmps65
 go_wp2
 go_loopw [5,11] (fun r i wr=>∃ k:Nat,k<=cs.length/\i=.int .i64 k/\r=.bool ((cs.take k).foldl zex (t,false)).2/\Below B w wr/\TA B wr tb ((cs.take k).foldl zex (t,false)).1/\((cs.take k).foldl zex (t,false)).1.length=t.length/\Hid (∀ e∈((cs.take k).foldl zex (t,false)).1,e.stratum<=M+k)) (fun _ i _=>cs.length - (intOf i).toNat)
 case atStart=>exact⟨0,Nat.zero_le _,rfl,rfl,Below.refl _ _,h,rfl,hM⟩
 case round =>
  obtain⟨k,hk,rfl,rfl,hbk',htk,hlk,HM⟩:=hrel
  have hbk:Below w0.heap.size w0 wr:=by rw[hw0];exact hb0.trans hbk'
  have hszk:=hbk'.size
  by_cases hlt:k < cs.length
  ·have hsn:=zo9 zex (t,false) cs k hlt
   obtain⟨g,ao2,cap2,ao3,cap3,rfl,hg,hc0,hc1,hc2,hc3,hsk,hllk⟩:=hcs.cell k hlt
   have hd0:=(hbk.cell (p:=⟨g,k * 4,none⟩) (by omega)).trans hc0
   have hd1:=(hbk.cell (p:=⟨g,k * 4+1,none⟩) (by omega)).trans hc1
   have hd2:=(hbk.cell (p:=⟨g,k * 4+2,none⟩) (by omega)).trans hc2
   have hd3:=(hbk.cell (p:=⟨g,k * 4+3,none⟩) (by omega)).trans hc3
   have hgr:g < wr.heap.size:=by omega
   have hskr:=hsk.below hbk
   have hlkr:=hllk.below hbk
   obtain⟨hk1,hk2⟩:=HOK.out _ (List.getElem_mem hlt)
   clear hc0 hc1 hc2 hc3 hsk hllk
   generalize cs[k]=a at *
   generalize (cs.take k).foldl zex (t,false)=x at *
   obtain⟨tk,rk⟩:=x
   simp only at htk hlk HM ⊢
   have HS:Hid ((cs.take (k+1)).foldl zex (t,false)=zex (tk,rk) a):=hsn
   clear hsn
   have hll:zfm tk a<=M+k+1:=zt3 HM.out a.body 0 (by omega)
   have hrl:=z0w tk a.head.pred (zfm tk a)
   have HB:Hid (∀ e∈(zcf tk a.head.pred (zfm tk a)).1,e.stratum<=M+(k+1)):=z6b (fun e he=>by have:=HM.out e he;omega) (by omega)
   cases hR:(zcf tk a.head.pred (zfm tk a)).2 with
   |true =>
    have H1:Hid (((cs.take (k+1)).foldl zex (t,false))=((zcf tk a.head.pred (zfm tk a)).1,true)):=by rw[Hid,HS.out,zex];simp[hR]
    clear HS
    go_wp2_with (first|(go_at_call 95;refine(zt0 B (M+k) _ tb tk a _ _ (by exact htk.below (by repeat'(first|with_reducible(first|exact zR _ _|assumption|refine zN ?_ _|refine zA ?_ ?_ _|refine zD ?_|refine zS ?_ ?_ _)|go_size))) (by omega) HM.out (by omega) (by exact hskr.below (by repeat'(first|with_reducible(first|exact zR _ _|assumption|refine zN ?_ _|refine zA ?_ ?_ _|refine zD ?_|refine zS ?_ ?_ _)|go_size))) (by exact hlkr.below (by repeat'(first|with_reducible(first|exact zR _ _|assumption|refine zN ?_ _|refine zA ?_ ?_ _|refine zD ?_|refine zS ?_ ?_ _)|go_size))) hk2).mono ?_;rintro e w1 ⟨rfl,hb1⟩;have hB1:=zad ((Below.refl wr.heap.size wr).alloc (Nat.le_refl _) _) hb1 (Nat.le_refl _);have ht1:=htk.below hB1;have hz1:=hB1.size;have hbx1:=(Box.new wr _ _).below hb1;obtain⟨hxc,hxf⟩:=hbx1.rules)|(go_at_call 96;refine(raise_any B _ tb tk a.head.pred (zfm tk a) ht1 (by omega) (by omega)).mono ?_;rintro e w2 ⟨rfl,ht2,hb2⟩))
    go_roundw
    case rel=>exact⟨k+1,by omega,by go_num,by rw[H1.out],(hbk'.trans (hB1.mono (by omega))).trans hb2,by rw[H1.out];exact ht2,by rw[H1.out];simp only;omega,by rw[H1.out];exact HB⟩
    case measure=>simp[intOf];omega
   |false =>
    have H1:Hid (((cs.take (k+1)).foldl zex (t,false))=((zcf tk a.head.pred (zfm tk a)).1,rk)):=by rw[Hid,HS.out,zex];simp[hR]
    clear HS
    go_wp2_with (first|(go_at_call 95;refine(zt0 B (M+k) _ tb tk a _ _ (by exact htk.below (by repeat'(first|with_reducible(first|exact zR _ _|assumption|refine zN ?_ _|refine zA ?_ ?_ _|refine zD ?_|refine zS ?_ ?_ _)|go_size))) (by omega) HM.out (by omega) (by exact hskr.below (by repeat'(first|with_reducible(first|exact zR _ _|assumption|refine zN ?_ _|refine zA ?_ ?_ _|refine zD ?_|refine zS ?_ ?_ _)|go_size))) (by exact hlkr.below (by repeat'(first|with_reducible(first|exact zR _ _|assumption|refine zN ?_ _|refine zA ?_ ?_ _|refine zD ?_|refine zS ?_ ?_ _)|go_size))) hk2).mono ?_;rintro e w1 ⟨rfl,hb1⟩;have hB1:=zad ((Below.refl wr.heap.size wr).alloc (Nat.le_refl _) _) hb1 (Nat.le_refl _);have ht1:=htk.below hB1;have hz1:=hB1.size;have hbx1:=(Box.new wr _ _).below hb1;obtain⟨hxc,hxf⟩:=hbx1.rules)|(go_at_call 96;refine(raise_any B _ tb tk a.head.pred (zfm tk a) ht1 (by omega) (by omega)).mono ?_;rintro e w2 ⟨rfl,ht2,hb2⟩))
    go_roundw
    case rel=>exact⟨k+1,by omega,by go_num,by rw[H1.out],(hbk'.trans (hB1.mono (by omega))).trans hb2,by rw[H1.out];exact ht2,by rw[H1.out];simp only;omega,by rw[H1.out];exact HB⟩
    case measure=>simp[intOf];omega
  ·have hE:cs.take k=cs:=List.take_of_length_le (by omega)
   rw[hE] at htk hlk HM ⊢
   have hkl:k=cs.length:=by omega
   have HM2:Hid (∀ e∈(zb6 t cs).1,e.stratum<=M+cs.length):=by rw[← hkl];exact HM
   clear hE HM
   go_wp2
   go_ret
   exact⟨rfl,htk,hbk',hlk,HM2⟩
def zdf:Nat->List zao->List zab->List zao × Bool
 |0,t,_=>(t,false)
 |m+1,t,cs=>if (zb6 t cs).2 then zdf m (zb6 t cs).1 cs else((zb6 t cs).1,true)
theorem zm0(B:Nat)(w:World)(tb:Nat)(t:List zao)(v:Value)(cs:List zab)(w0:World)(hw0:w0.heap.size=B)(hb0:Below B w0 w)(hcs:CIn lo 90 w0 v cs)(hok:∀ c∈cs,zn9 c)(hl0:cs.length<=1000)
  (h:TA B w tb t) (hl:t.length<=1000) (hM:∀ e∈t,e.stratum<=0) :
  Calls Tryz.prog 42 #[.pointer (some ⟨tb,0,none⟩),v] w fun e w'=>e=.returned (.bool (zdf (t.length+1) t cs).2)/\TA B w' tb (zdf (t.length+1) t cs).1/\Below B w w':=by
 have HOK:Hid (∀ c∈cs,zn9 c):=hok
 have HW:Hid (w0.heap.size=B):=hw0
 clear hok hw0
 go_enter Tryz.func42,Tryz.ntmps42
 go_wp2
 go_loopw [5] (fun i wr=>∃(p:Nat) (tk:List zao),p<=t.length+1/\i=.int .i64 p/\Below B w wr/\TA B wr tb tk/\tk.length=t.length/\Hid (∀ e∈tk,e.stratum<=p * cs.length)/\Hid (zdf (t.length+1) t cs=zdf (t.length+1 - p) tk cs)) (fun i _=>t.length+1 - (intOf i).toNat)
 case atStart=>exact⟨0,t,Nat.zero_le _,rfl,Below.refl _ _,h,rfl,(by simpa [Hid] using hM),rfl⟩
 case round =>
  obtain⟨p,tk,hp,rfl,hbk,htk,hlk,HM,H⟩:=hrel
  obtain⟨ao,cap,hbx,hown⟩:=htk.view
  obtain⟨hc,hf⟩:=hbx.rules
  rw[hlk] at hc hbx hown
  by_cases hlt:p<=t.length
  ·have hmul:p * cs.length<=1000 * 1000:=Nat.mul_le_mul (by omega) hl0
   have hra:=zp4 B (p * cs.length) wr tb tk v cs w0 HW.out (hb0.trans hbk) hcs HOK.out hl0 htk (by omega) HM.out (by omega)
   have HRA:Hid (Calls Tryz.prog 65 #[.pointer (some ⟨tb,0,none⟩),v] wr fun e w'=>e=.returned (.bool (zb6 tk cs).2)/\TA B w' tb (zb6 tk cs).1/\Below B wr w'/\(zb6 tk cs).1.length=tk.length/\(∀ e∈(zb6 tk cs).1,e.stratum<=p * cs.length+cs.length)):=hra
   have hs1:t.length+1 - p=(t.length - p)+1:=by omega
   have HE:Hid (zdf (t.length+1) t cs=if (zb6 tk cs).2 then zdf (t.length - p) (zb6 tk cs).1 cs else((zb6 tk cs).1,true)):=by rw[Hid,H.out,hs1];rfl
   clear hra hs1 H
   have hpp:p * cs.length+cs.length=(p+1) * cs.length:=by rw[Nat.add_mul];omega
   have HPP:Hid (p * cs.length+cs.length=(p+1) * cs.length):=hpp
   clear hpp hmul HM
   cases hR:(zb6 tk cs).2 with
   |true =>
    have H2:Hid (zdf (t.length+1) t cs=zdf (t.length+1 - (p+1)) (zb6 tk cs).1 cs):=by rw[Hid,HE.out,hR];simp
    clear HE
    rw[hR] at HRA
    clear hR
    generalize (zb6 tk cs).1=tn at *
    go_wp2_with (first|(go_at_call 65;refine HRA.out.mono ?_;rintro e w1 ⟨rfl,ht1,hb1,hl1,hm1⟩;clear HRA))
    go_roundw
    case rel=>exact⟨p+1,tn,by omega,by go_num,hbk.trans hb1,ht1,by omega,by rw[HPP.out] at hm1;exact hm1,H2⟩
    case measure=>simp[intOf];omega
   |false =>
    have H2:Hid (zdf (t.length+1) t cs=((zb6 tk cs).1,true)):=by rw[Hid,HE.out,hR];simp
    clear HE
    rw[hR] at HRA
    clear hR
    generalize (zb6 tk cs).1=tn at *
    go_wp2_with (first|(go_at_call 65;refine HRA.out.mono ?_;rintro e w1 ⟨rfl,ht1,hb1,hl1,hm1⟩;clear HRA))
    go_ret
    exact⟨by rw[H2.out];rfl,by rw[H2.out];exact ht1,hbk.trans hb1⟩
  ·have H2:Hid (zdf (t.length+1) t cs=(tk,false)):=by rw[Hid,H.out,show t.length+1 - p=0 by omega];rfl
   clear H
   go_wp2
   go_ret
   exact⟨by rw[H2.out];rfl,by rw[H2.out];exact htk,hbk⟩
end Go.Proofs.YteampbddflhngabGreat
