import Derived.Test.YteampbddflhngabGreatJ06
import Derived.Deep.RegionLaw

namespace Go.Proofs.YteampbddflhngabGreat
set_option maxRecDepth 100000
set_option maxHeartbeats 1000000
open Go.RowKit
theorem Box.newAt(w:World)(b:Nat)(c:Array Value)(T:TypeId)(h:b=w.heap.size):Box (w.alloc (.cells c T)) b c T:=by subst h;exact Box.new w c T
theorem Box.drew{w:World}{b:Nat}{c:Array Value}{T:TypeId}(h:Box w b c T):Box w.drew b c T:=h
theorem zyq{w:World}{base:Nat}{e:TypeId}{size:Nat}{v:Value}{n:Nat}{xs:List Value}(h:w.ownsRow base e size v n xs){b:Nat}(hb:w.heap.size<=b):some b≠v.ownBlock:=by
 intro he
 obtain⟨_,⟨hv0,_⟩|⟨g',cap',cur',hv',_,hh',_⟩⟩:=h
 ·subst hv0;cases he
 ·subst hv';simp only[Value.ownBlock,Option.some.injEq] at he;subst he
  have:=(Array.getElem?_eq_some_iff.1 hh').1;omega
theorem zfr{w:World}{base:Nat}{e T:TypeId}{size:Nat}{v:Value}{n:Nat}{xs:List Value}(h:w.ownsRow base e size v n xs){b:Nat}{c:Array Value}(hb:Box w b c T)(hT:e≠T):some b≠v.ownBlock:=by
 intro he
 obtain⟨_,⟨hv0,_⟩|⟨g',cap',cur',hv',_,hh',_⟩⟩:=h
 ·subst hv0;cases he
 ·subst hv';simp only[Value.ownBlock,Option.some.injEq] at he;subst he
  unfold Box at hb;rw[hb] at hh';simp at hh';exact hT hh'.2.symm
theorem Box.keep{wA w2:World}{v:Value}{b:Nat}{c:Array Value}{T:TypeId}(h:Box wA b c T)(hne:some b≠v.ownBlock)(hk:∀ k,k < wA.heap.size->some k≠v.ownBlock->w2.heap[k]?=wA.heap[k]?):Box w2 b c T:=by
 have hlt:=h.lt
 unfold Box at *;rw[hk b hlt hne];exact h
theorem zvc{w:World}{base:Nat}{e T:TypeId}{size g n cap:Nat}{m:Nat}{xs:List Value}(h:w.ownsRow base e size (.slice (some ⟨g,0,none⟩) n cap) m xs){b:Nat}{c:Array Value}(hb:Box w b c T)(hlt:c.size < m * size):b≠g:=by
 intro hg
 subst hg
 obtain⟨_,⟨hv0,_⟩|⟨g',cap',cur',hv',_,hh',h1,h2,h3,_⟩⟩:=h
 ·cases hv0
 ·simp at hv';obtain⟨rfl,rfl,rfl⟩:=hv'
  unfold Box at hb;rw[hb] at hh';simp at hh';rw[← hh'.1] at h3
  have:=Nat.mul_le_mul_right size h1;omega
section
variable {P:Program} {ops:Array Oper} {o:Oper} {a:Act} {K:Act->World->Prop} {Q:Exit->Act->World->Prop}
theorem z2d{E:Prop}(wO wA:World)(l:List Value)(te:TypeId)(hg:o.guard=none)(s x:Operand)(t:TypeId)
  (ho:o.op=.call { callee:=.builtin .append,args:=#[s,x],argTypes:=#[t,t] })
  (base:Nat) (e:TypeId) (i:TypeInfo) (z:Value) (size bytes:Nat) (ht:P.underlying t=some (.slice e)) (hi:P.info? e=some i) (hz:i.zero=some z)
  (hsize:i.size=size) (hby:i.bytes=bytes) (hzs:z.cells.size=size) (hsz:0 < size)
  (v:Value) (n:Nat) (xs:List Value) (hs:a.eval s=v) (hown:wO.ownsRow base e size v n xs) (hbO:Below wO.heap.size wO wA)
  (b c:Nat) (hx:a.eval x=.slice (some ⟨b,0,none⟩) 1 c) (hb:Box wA b l.toArray te) (hl:l.length=size) (h1:∀ u∈l,u.oneCell'=true)
  (hn:n<=1048576) (hbytes:bytes<=1000) (hbase:base<=wO.heap.size)
  (h:∀ v' w',w'.ownsRow base e size v' (n+1) (xs++l)->Below base wO w'->(∀ k,k < wA.heap.size->some k≠v.ownBlock->w'.heap[k]?=wA.heap[k]?)->wA.heap.size<=w'.heap.size->K (a.put o.dst v') w') :
  if Region.wanted o (yielded ops a.tmps)=true then Oper.wp P o a wA K Q else E:=by
 have hw:Region.wanted o (yielded ops a.tmps)=true:=by simp[Region.wanted,hg]
 rw[if_pos hw]
 have hown':=zaa hown hbO
 have hlt:∀ k,v.ownBlock=some k->base<=k/\k < wO.heap.size:=by
  intro k hk
  obtain⟨_,h2⟩:=hown
  rcases h2 with ⟨hv,_⟩|⟨g,cap,cur,hv,hg,hh,_⟩
  ·subst hv;cases hk
  ·subst hv;simp only[Value.ownBlock,Option.some.injEq] at hk;subst hk
   exact⟨hg,(Array.getElem?_eq_some_iff.1 hh).1⟩
 have hsz0:=hbO.size
 refine wp_append_own _ s x t ho base e i z size bytes ht hi hz hsize hby hzs hsz v n xs hs hown' ⟨b,0,none⟩ 1 c l hx (by omega) ?_ h1 ?_ ?_ ?_ ?_
 ·intro j u hj
  rw[Addr.add_lit,Nat.zero_add,hb.rules.1]
  simpa using hj
 ·unfold maxLen;omega
 ·have:(n+1) * bytes<=1048577 * 1000:=Nat.mul_le_mul (by omega) hbytes
  omega
 ·omega
 ·intro v' w' h2 hgr _
  refine h v' w' h2 ⟨hgr.os.trans hbO.os,hgr.tape.trans hbO.tape,hgr.output.trans hbO.output,by have:=hgr.size;omega,fun k hk=>?_⟩ hgr.block hgr.size
  rw[hgr.block k (by omega) (fun e=>by have:=hlt k e.symm;omega)];exact hbO.block k (by omega)
end
def zgh(t:List zav)(x:zav)(k:Nat):List zav:=t.take k++x::t.drop k
theorem zd6(t:List zav)(x:zav)(k:Nat):(zgh t x k).length=t.length+1:=by simp[zgh];omega
theorem z0v(t:List zav)(x:zav):zgh t x t.length=t++[x]:=by simp[zgh]
theorem zyb(t:List zav)(x:zav)(j:Nat)(hj:j < t.length):∃ h:j < (zgh t x (j+1)).length,(zgh t x (j+1))[j]=t[j]:=by
 refine⟨by rw[zd6];omega,?_⟩
 unfold zgh
 rw[List.getElem_append_left (by simp;omega)];simp
theorem zya(t:List zav)(x:zav)(j:Nat)(hj:j<=t.length):∃ h:j < (zgh t x j).length,(zgh t x j)[j]=x:=by
 refine⟨by rw[zd6];omega,?_⟩
 unfold zgh
 rw[List.getElem_append_right (by simp;omega)];simp[hj]
theorem zyc(t:List zav)(x:zav)(j:Nat)(hj:j < t.length):((zgh t x (j+1)).set (j+1) t[j]).set j x=zgh t x j:=by
 unfold zgh
 have h1:t.take (j+1)=t.take j++[t[j]]:=List.take_succ_eq_append_getElem hj
 have h2:t.drop j=t[j]::t.drop (j+1):=List.drop_eq_getElem_cons hj
 have hl:(t.take j).length=j:=by simp;omega
 rw[h1,h2,List.append_assoc,List.set_append_right _ _ (by omega),hl,List.set_append_right _ _ (by omega),hl]
 simp
theorem zpr:∀(t:List zav) (k:Nat) (e:zav),k < t.length->(((zck t).set (k * 3) (.string e.name)).set (k * 3+1) (.int .i64 (e.arity:Int))).set (k * 3+2) (.int .i64 (e.stratum:Int))=zck (t.set k e)
 |[],k,_,hk=>by simp at hk
 |a::r,0,e,_=>by simp[zck]
 |a::r,k+1,e,hk=>by
  have:=zpr r k e (by simpa using hk)
  simp only[zck,List.flatMap_cons,List.set_cons_succ] at this ⊢
  rw[show(k+1) * 3=k * 3+1+1+1 from by omega,show k * 3+1+1+1+2=k * 3+2+1+1+1 from by omega]
  simpa using this
theorem zvd{w:World}{B g n cap m:Nat}{t:List zav}(h:w.ownsRow B 138 3 (.slice (some ⟨g,0,none⟩) n cap) m (zck t))(k:Nat)(hk:k < t.length)(e:zav) :
  (((w.setCell ⟨g,k * 3,none⟩ (.string e.name)).setCell ⟨g,k * 3+1,none⟩ (.int .i64 (e.arity:Int))).setCell ⟨g,k * 3+2,none⟩ (.int .i64 (e.stratum:Int))).ownsRow B 138 3 (.slice (some ⟨g,0,none⟩) n cap) m (zck (t.set k e)):=by
 have hl:=zlo t
 rw[← zpr t k e hk]
 exact zb7 (zb7 (zb7 h _ (by omega) _) _ (by simp;omega) _) _ (by simp;omega) _
structure zg8 (tb:Nat) (w w':World):Prop where
 size:w.heap.size<=w'.heap.size
 box:∀ b c T,b≠tb->T≠138->Box w b c T->Box w' b c T
theorem zg8.trans{tb:Nat}{a b c:World}(h:zg8 tb a b)(k:zg8 tb b c):zg8 tb a c:=⟨Nat.le_trans h.size k.size,fun x y z h1 h2 h3=>k.box x y z h1 h2 (h.box x y z h1 h2 h3)⟩
theorem zg8.of{tb:Nat}{w w':World}(h:Below w.heap.size w w'):zg8 tb w w':=⟨h.size,fun _ _ _ _ _ k=>k.below h⟩
theorem zg8.drew{tb:Nat}{w w':World}(h:zg8 tb w w'):zg8 tb w w'.drew:=⟨h.size,fun b c T h1 h2 h3=>(h.box b c T h1 h2 h3).drew⟩
theorem zg8.setRow{tb:Nat}{w w':World}(h:zg8 tb w w'){B g n cap m:Nat}{xs:List Value}(ho:w'.ownsRow B 138 3 (.slice (some ⟨g,0,none⟩) n cap) m xs)(o:Nat)(u:Value):zg8 tb w (w'.setCell ⟨g,o,none⟩ u):=by
 refine⟨by simp[World.setCell];exact h.size,fun b c T h1 h2 h3=>?_⟩
 have hb:=h.box b c T h1 h2 h3
 have:=zfr ho hb (Ne.symm h2)
 simp only[Value.ownBlock,ne_eq,Option.some.injEq] at this
 exact hb.set_ne this _ _
theorem zsn{tb:Nat}{w w':World}(h:zg8 tb w w'){B g n cap m:Nat}{t:List zav}(ho:w'.ownsRow B 138 3 (.slice (some ⟨g,0,none⟩) n cap) m (zck t))(k:Nat)(hk:k < t.length)(u1 u2 u3:Value) :
  zg8 tb w (((w'.setCell ⟨g,k * 3,none⟩ u1).setCell ⟨g,k * 3+1,none⟩ u2).setCell ⟨g,k * 3+2,none⟩ u3):=by
 have hl:=zlo t
 exact((h.setRow ho _ _).setRow (zb7 ho _ (by omega) _) _ _).setRow (zb7 (zb7 ho _ (by omega) _) _ (by simp;omega) _) _ _
theorem Tryz.infoPred:(Tryz.prog.info? 138).map (fun i=>(i.zero,i.size,i.bytes))=some (some (.agg #[.string ByteArray.empty,.int .i64 0,.int .i64 0]),3,32):=by kernel_rfl
theorem zpd(B:Nat)(w:World)(tb:Nat)(t:List zav)(i:Nat)(x:zav)(h:TA B w tb t)(hl:t.length<=1000)(hi:i<=t.length)(hB:B<=w.heap.size)(hBt:B<=tb) :
  Calls Tryz.prog 93 #[.pointer (some ⟨tb,0,none⟩),.int .i64 i,.agg #[.string x.name,.int .i64 x.arity,.int .i64 x.stratum]] w fun e w'=>e=.returned (.tuple #[])/\TA B w' tb (t.take i++x::t.drop i)/\Below B w w'/\zg8 tb w w':=by
 obtain⟨i0,hi0,hz0,hzs,hzb⟩:=info_parts Tryz.infoPred
 obtain⟨ao,cap,hbx,hown⟩:=h.view
 obtain⟨hc,hf⟩:=hbx.rules
 have hlt:=hbx.lt
 have hbAA:Below w.heap.size w (((w.alloc (.cells #[.string x.name,.int .i64 (x.arity:Int),.int .i64 (x.stratum:Int)] 138)).alloc (.cells #[.string x.name,.int .i64 (x.arity:Int),.int .i64 (x.stratum:Int)] 138)).drew):=(by go_grown)
 go_enter Tryz.func93,Tryz.ntmps93
 go_wp2
 go_region_law (first|(refine z2d w _ [.string x.name,.int .i64 (x.arity:Int),.int .i64 (x.stratum:Int)] 138 rfl (.tmp 11) (.tmp 13) 82 rfl B 138 i0 _ 3 32 Tryz.underlying82 hi0 hz0 hzs hzb rfl (by decide) _ _ _ (by simp[Act.eval]) hown (by exact(by go_grown)) (w.heap.size+1) 1 (by simp[Act.eval]) (by exact Box.drew (Box.newAt _ _ _ _ (by simp))) rfl (by simp[Value.oneCell']) (by omega) (by omega) hB ?_;intro v' w2 ho2 hB2 hk2 hz2';obtain⟨ao2,cap2,rfl⟩:=zab ho2;have hbx2:=(hbx.below hbAA).keep (zfr hown hbx (by decide)) hk2;obtain⟨hc2,hf2⟩:=hbx2.rules;have hxx2:=Box.keep (Box.drew ((Box.new w _ _).below ((Below.refl _ _).alloc (Nat.le_refl _) _))) (zyq hown (Nat.le_refl _)) hk2))
 all_goals
  go_wp2
  go_loopw [6] (fun k wr=>∃ j:Nat,i<=j/\j<=t.length/\k=.int .i64 j/\Box wr tb #[.slice ao2 (t.length+1) cap2] 84/\wr.ownsRow B 138 3 (.slice ao2 (t.length+1) cap2) (t.length+1) (zck (zgh t x j))/\Box wr w.heap.size #[.string x.name,.int .i64 (x.arity:Int),.int .i64 (x.stratum:Int)] 138/\Below B w wr/\zg8 tb w wr) (fun k _=>(intOf k).toNat)
  case atStart =>
   refine⟨t.length,hi,Nat.le_refl _,rfl,hbx2.set 0 _,?_,hxx2.set_ne (by omega) _ _,?_,?_⟩
   ·rw[z0v];have:=zb4 ho2 ((But.refl tb w2).setCell 0 (.slice ao2 (t.length+1) cap2)) hbx2 (by decide);simpa [zck] using this
   ·exact hB2.setCell hBt _
   ·exact⟨by simp[World.setCell];exact hB2.size,fun b c T h1 h2 h3=>((h3.below hbAA).keep (zfr hown h3 (Ne.symm h2)) hk2).set_ne h1 _ _⟩
  case round =>
   obtain⟨j,hij,hjl,rfl,hbr,hor,hxr,hblr,hkpr⟩:=hrel
   obtain⟨hcr,hfr⟩:=hbr.rules
   obtain⟨hcx,hfx⟩:=hxr.rules
   by_cases hlt2:i < j
   ·obtain⟨j,rfl⟩:∃ j',j=j'+1:=⟨j - 1,by omega⟩
    obtain⟨hp1,hp2⟩:=zyb t x j (by omega)
    obtain⟨g,rfl,hg,hBg,hd0,hd1,hd2⟩:=zdu (t:=zgh t x (j+1)) (by rw[zd6];exact hor) j hp1
    rw[hp2] at hd0 hd1 hd2
    have hfg:=zby hor
    have hne1:=zfr hor hbr (by decide)
    have hne2:=zvc hor hxr (by simp;omega)
    simp only[Value.ownBlock,ne_eq,Option.some.injEq] at hne1
    obtain⟨hq1,hq2⟩:=zya t x (j+1) (by omega)
    obtain⟨g',hgg,_,_,he0,he1,he2⟩:=zdu (t:=zgh t x (j+1)) (by rw[zd6];exact hor) (j+1) hq1
    simp at hgg
    subst hgg
    rw[hq2] at he0 he1 he2
    clear hp2 hq2
    go_wp2
    go_region
    go_wp2
    go_region
    go_wp2
    have hop:=zvd (zvd hor (j+1) (by rw[zd6];omega) t[j]) j (by rw[List.length_set,zd6];omega) x
    have hkp:=zsn (zsn hkpr hor (j+1) (by rw[zd6];omega) (.string t[j].name) (.int .i64 (t[j].arity:Int)) (.int .i64 (t[j].stratum:Int))) (zvd hor (j+1) (by rw[zd6];omega) t[j]) j (by rw[List.length_set,zd6];omega) (.string x.name) (.int .i64 (x.arity:Int)) (.int .i64 (x.stratum:Int))
    rw[zyc t x j (by omega)] at hop
    go_roundw
    case rel=>exact⟨j,by omega,by omega,rfl,(((((((hbr.set_ne hne1 _ _).set_ne hne1 _ _).set_ne hne1 _ _).set_ne hne1 _ _).set_ne hne1 _ _).set_ne hne1 _ _).drew).drew,hop.drew.drew,(((((((hxr.set_ne hne2 _ _).set_ne hne2 _ _).set_ne hne2 _ _).set_ne hne2 _ _).set_ne hne2 _ _).set_ne hne2 _ _).drew).drew,(by go_grown),hkp.drew.drew⟩
    case measure=>simp[intOf]
   ·have hji:j=i:=by omega
    subst hji
    go_wp2
    go_end0
    exact⟨rfl,⟨_,hbr,by rw[show(t.take j++x::t.drop j).length=t.length+1 from zd6 t x j];exact hor⟩,hblr,hkpr⟩
theorem z6k(a b:Nat):((a:Int) == (b:Int))=decide (a=b):=by
 by_cases h:a=b
 ·subst h;simp
 ·rw[decide_eq_false h,beq_eq_false_iff_ne];omega
theorem z4r{a b:Bool}(h:a=b):Ending.returned (.bool a)=.returned (.bool b):=by rw[h]
def zou(t:List zav)(l:zbv):Option (List zav):=match zbu t l.pred with
 |some e=>if e.arity=l.args.length then some t else none
 |none=>some (zgh t ⟨l.pred,l.args.length,0⟩ (zaj t l.pred))
theorem zw7(B:Nat)(w:World)(tb:Nat)(t:List zav)(l:zbv)(aoa:Option Addr)(capa:Nat)(h:TA B w tb t)(hl:t.length<=1000)(e0:zav)(hn:zbu t l.pred=some e0) :
  Calls Tryz.prog 63 #[.pointer (some ⟨tb,0,none⟩),.agg #[.bool l.neg,.string l.pred,.slice aoa l.args.length capa]] w fun e w'=>e=.returned (.bool (decide (e0.arity=l.args.length)))/\Below w.heap.size w w':=by
 obtain⟨ao,cap,hbx,hown⟩:=h.view
 have hlt:=hbx.lt
 have hle:=zfd t l.pred
 have hbA:=(Below.refl w.heap.size w).alloc (Nat.le_refl _) (.cells #[.bool l.neg,.string l.pred,.slice aoa l.args.length capa] 45)
 have HPL:Hid (Calls Tryz.prog 78 #[.pointer (some ⟨tb,0,none⟩),.string l.pred] (w.alloc (.cells #[.bool l.neg,.string l.pred,.slice aoa l.args.length capa] 45)) fun e w'=>e=.returned (.int .i64 (zaj t l.pred))/\w'=(w.alloc (.cells #[.bool l.neg,.string l.pred,.slice aoa l.args.length capa] 45))):=zk0 B _ tb t l.pred (h.below hbA) hl
 obtain⟨hc,hf⟩:=hbx.rules
 obtain⟨hk,hee,hnn⟩:=zcd hn
 obtain⟨g,rfl,hg,_,hd0,hd1,_⟩:=zdu hown _ hk
 rw[hee] at hd0 hd1
 have he:=zg4 hnn
 clear hn hnn hee
 generalize e0.name=x at *
 generalize zaj t l.pred=k at *
 go_enter Tryz.func63,Tryz.ntmps63
 go_wp2_with (first|(go_at_call 78;refine HPL.out.mono ?_;rintro e w' ⟨rfl,rfl⟩;clear HPL))
 go_quiet (fail)
 go_wp2
 go_quiet (fail)
 go_wp2
 go_ret
 exact⟨z4r (z6k _ _),(by repeat'(first|with_reducible(first|exact zR _ _|assumption|refine zN ?_ _|refine zA ?_ ?_ _|refine zD ?_|refine zS ?_ ?_ _)|go_size))⟩
theorem z5b(B:Nat)(w:World)(tb:Nat)(t:List zav)(l:zbv)(aoa:Option Addr)(capa:Nat)(h:TA B w tb t)(hl:t.length<=1000)(hn:zbu t l.pred=none)(hB:B<=w.heap.size)(hBt:B<=tb) :
  Calls Tryz.prog 63 #[.pointer (some ⟨tb,0,none⟩),.agg #[.bool l.neg,.string l.pred,.slice aoa l.args.length capa]] w fun e w'=>e=.returned (.bool true)/\TA B w' tb (zgh t ⟨l.pred,l.args.length,0⟩ (zaj t l.pred))/\Below B w w'/\zg8 tb w w':=by
 obtain⟨ao,cap,hbx,hown⟩:=h.view
 have hlt:=hbx.lt
 have hle:=zfd t l.pred
 have hbA:=(Below.refl w.heap.size w).alloc (Nat.le_refl _) (.cells #[.bool l.neg,.string l.pred,.slice aoa l.args.length capa] 45)
 have HPL:Hid (Calls Tryz.prog 78 #[.pointer (some ⟨tb,0,none⟩),.string l.pred] (w.alloc (.cells #[.bool l.neg,.string l.pred,.slice aoa l.args.length capa] 45)) fun e w'=>e=.returned (.int .i64 (zaj t l.pred))/\w'=(w.alloc (.cells #[.bool l.neg,.string l.pred,.slice aoa l.args.length capa] 45))):=zk0 B _ tb t l.pred (h.below hbA) hl
 obtain⟨hc,hf⟩:=hbx.rules
 have hta:=h
 have HTA:Hid (TA B w tb t):=hta
 have HINS:Hid (zgh t ⟨l.pred,l.args.length,0⟩ (zaj t l.pred)=t.take (zaj t l.pred)++⟨l.pred,l.args.length,0⟩::t.drop (zaj t l.pred)):=rfl
 rw[HINS.out]
 clear h hta HINS
 rcases ziz hn with hk|⟨hk,hne⟩
 ·clear hn
  generalize zaj t l.pred=k at *
  go_enter Tryz.func63,Tryz.ntmps63
  go_wp2_with (first|(go_at_call 78;refine HPL.out.mono ?_;rintro e w' ⟨rfl,rfl⟩;clear HPL))
  go_quiet (fail)
  go_wp2_with (first|(go_at_call 93;refine(zpd B _ tb t k ⟨l.pred,l.args.length,0⟩ (by exact HTA.out.below (by repeat'(first|with_reducible(first|exact zR _ _|assumption|refine zN ?_ _|refine zA ?_ ?_ _|refine zD ?_|refine zS ?_ ?_ _)|go_size))) hl hle (by exact Nat.le_trans hB (by simp)) hBt).mono ?_;rintro e w2 ⟨rfl,ht2,hb2,hkp2⟩))
  go_ret
  exact⟨rfl,ht2,((zax (hbA.mono hB) _)).trans hb2,(zg8.of (zax hbA _)).trans hkp2⟩
 ·obtain⟨g,rfl,hg,_,hd0,hd1,_⟩:=zdu hown _ hk
  have he:=zf3 hne
  clear hn hne
  generalize t[zaj t l.pred].name=x at *
  generalize zaj t l.pred=k at *
  go_enter Tryz.func63,Tryz.ntmps63
  go_wp2_with (first|(go_at_call 78;refine HPL.out.mono ?_;rintro e w' ⟨rfl,rfl⟩;clear HPL))
  go_quiet (fail)
  go_wp2_with (first|(go_at_call 93;refine(zpd B _ tb t k ⟨l.pred,l.args.length,0⟩ (by exact HTA.out.below (by repeat'(first|with_reducible(first|exact zR _ _|assumption|refine zN ?_ _|refine zA ?_ ?_ _|refine zD ?_|refine zS ?_ ?_ _)|go_size))) hl hle (by exact Nat.le_trans hB (by simp)) hBt).mono ?_;rintro e w2 ⟨rfl,ht2,hb2,hkp2⟩))
  go_ret
  exact⟨rfl,ht2,((zax (hbA.mono hB) _)).trans hb2,(zg8.of (zax hbA _)).trans hkp2⟩
end Go.Proofs.YteampbddflhngabGreat
namespace Go.Proofs.YteampbddflhngabGreat
set_option maxRecDepth 100000
set_option maxHeartbeats 1000000
open Go.RowKit
variable {lo:Nat}
theorem zqj{t t':List zav}{l:zbv}(h:zou t l=some t'):t'.length<=t.length+1:=by
 unfold zou at h
 split at h
 ·split at h <;> simp at h;subst h;omega
 ·simp at h;subst h;rw[zd6];omega
theorem zzq{t t':List zav}{l:zbv}(h:zou t l=some t')(hz:∀ e∈t,e.stratum<=0):∀ e∈t',e.stratum<=0:=by
 unfold zou at h
 split at h
 ·split at h <;> simp at h;subst h;exact hz
 ·simp at h;subst h
  intro e he
  unfold zgh at he
  rcases List.mem_append.1 he with he|he
  ·exact hz e (List.mem_of_mem_take he)
  ·rcases List.mem_cons.1 he with he|he
   ·subst he;exact Nat.le_refl _
   ·exact hz e (List.mem_of_mem_drop he)
def zmg(o:Option (List zav))(l:zbv):Option (List zav):=o.bind (zou · l)
def za5(c:zac):List zbv:=c.head::c.body
def zgf(cs:List zac):Option (List zav):=(cs.flatMap za5).foldl zmg (some [])
theorem zif(ls:List zbv):ls.foldl zmg none=none:=by
 induction ls with
 |nil=>rfl
 |cons a ls ih=>exact ih
theorem zmx:∀(ls:List zbv) (t:List zav),(∀ e∈t,e.stratum<=0)->∀ t',ls.foldl zmg (some t)=some t'->∀ e∈t',e.stratum<=0
 |[],t,hz,t',h=>by simp at h;subst h;exact hz
 |l::ls,t,hz,t',h=>by
  simp only[List.foldl_cons] at h
  cases ha:zou t l with
  |none=>rw[show zmg (some t) l=none from ha,zif] at h;cases h
  |some t2=>rw[show zmg (some t) l=some t2 from ha] at h;exact zmx ls t2 (zzq ha hz) t' h
theorem zqh:∀(ls:List zbv) (t:List zav),∀ t',ls.foldl zmg (some t)=some t'->t'.length<=t.length+ls.length
 |[],t,t',h=>by simp at h;subst h;simp
 |l::ls,t,t',h=>by
  simp only[List.foldl_cons] at h
  cases ha:zou t l with
  |none=>rw[show zmg (some t) l=none from ha,zif] at h;cases h
  |some t2=>rw[show zmg (some t) l=some t2 from ha] at h;have:=zqh ls t2 t' h;have:=zqj ha;simp;omega
theorem z2f(B:Nat)(w:World)(tb:Nat)(t:List zav)(l:zbv)(aoa:Option Addr)(capa:Nat)(h:TA B w tb t)(hl:t.length<=1000)(hn:zou t l=none) :
  Calls Tryz.prog 63 #[.pointer (some ⟨tb,0,none⟩),.agg #[.bool l.neg,.string l.pred,.slice aoa l.args.length capa]] w fun e w'=>e=.returned (.bool false)/\Below w.heap.size w w':=by
 unfold zou at hn
 split at hn
 ·rename_i e0 he
  split at hn
  ·cases hn
  ·rename_i hne
   have:=zw7 B w tb t l aoa capa h hl e0 he
   rw[decide_eq_false hne] at this
   exact this
 ·cases hn
theorem zw8(B:Nat)(w:World)(tb:Nat)(t t2:List zav)(l:zbv)(aoa:Option Addr)(capa:Nat)(h:TA B w tb t)(hl:t.length<=1000)(hn:zou t l=some t2)(hB:B<=w.heap.size)(hBt:B<=tb) :
  Calls Tryz.prog 63 #[.pointer (some ⟨tb,0,none⟩),.agg #[.bool l.neg,.string l.pred,.slice aoa l.args.length capa]] w fun e w'=>e=.returned (.bool true)/\TA B w' tb t2/\Below B w w'/\zg8 tb w w':=by
 unfold zou at hn
 split at hn
 ·rename_i e0 he
  split at hn
  ·rename_i heq
   simp at hn
   subst hn
   have:=zw7 B w tb t l aoa capa h hl e0 he
   rw[decide_eq_true heq] at this
   refine this.mono ?_
   rintro e w' ⟨rfl,hb⟩
   exact⟨rfl,h.below hb,hb.mono hB,zg8.of hb⟩
  ·cases hn
 ·rename_i he
  simp at hn
  subst hn
  exact z5b B w tb t l aoa capa h hl he hB hBt
def zqd(o:Option (List zav))(w:World)(e:Ending)(w':World):Prop :=
 Below w.heap.size w w'/\match o with
  |none=>e=.returned (.tuple #[.agg #[.slice none 0 0],.bool false])
  |some t=>∃ pv,e=.returned (.tuple #[.agg #[pv],.bool true])/\w'.ownsRow w.heap.size 138 3 pv t.length (zck t)
theorem zm3{o:Option (List zav)}{w w':World}(h:Hid (o=none))(hb:Below w.heap.size w w'):zqd o w (.returned (.tuple #[.agg #[.slice none 0 0],.bool false])) w':=by
 have h':o=none:=h
 subst h';exact⟨hb,rfl⟩
theorem zr0{o:Option (List zav)}{w w':World}{t:List zav}{pv:Value}(h:Hid (o=some t))(hb:Below w.heap.size w w')(ho:w'.ownsRow w.heap.size 138 3 pv t.length (zck t)):zqd o w (.returned (.tuple #[.agg #[pv],.bool true])) w':=by
 have h':o=some t:=h
 subst h';exact⟨hb,pv,rfl,ho⟩
theorem zm4(w:World)(v:Value)(cs:List zac)(hcs:CIn lo 90 w v cs)(hN:(cs.flatMap za5).length<=1000) :
  Calls Tryz.prog 40 #[v] w fun e w'=>zqd (zgf cs) w e w':=by
 obtain⟨ao,cap,rfl⟩:=hcs.shape
 have hcl:cs.length<=1000:=by
  have:cs.length<=(cs.flatMap za5).length:=by
   clear hN hcs
   induction cs with
   |nil=>simp
   |cons c cs ih=>simp[za5] at ih ⊢;omega
  omega
 go_enter Tryz.func40,Tryz.ntmps40
 go_wp2
 go_loopw [11] (fun i wr=>∃(k:Nat) (tk:List zav),k<=cs.length/\i=.int .i64 k/\Below w.heap.size w wr/\TA w.heap.size wr (w.heap.size+1) tk/\Box wr w.heap.size #[.slice none 0 0] 84/\tk.length+((cs.drop k).flatMap za5).length<=1000/\Hid (zgf cs=((cs.drop k).flatMap za5).foldl zmg (some tk))) (fun i _=>cs.length - (intOf i).toNat)
 case atStart =>
  have hb1:=(Below.refl w.heap.size w).alloc (Nat.le_refl _) (.cells #[.slice none 0 0] 84)
  exact⟨0,[],Nat.zero_le _,rfl,(by go_grown),⟨_,Box.newAt _ _ _ _ (by simp),World.ownsRow_nil _ _ _ _⟩,(Box.new w _ _).below ((Below.refl _ _).alloc (Nat.le_refl _) _),(by simpa using hN),rfl⟩
 case round =>
  obtain⟨k,tk,hk,rfl,hbk,htk,hres,hnk,H⟩:=hrel
  have hszk:=hbk.size
  have hres1:=hres.lt
  have htl:w.heap.size+1 < wr.heap.size:=by obtain⟨_,hb,_⟩:=htk;exact hb.lt
  by_cases hlt:k < cs.length
  ·have hdr:=List.drop_eq_getElem_cons hlt
   obtain⟨g,ao2,cap2,ao3,cap3,rfl,hg,hc0,hc1,hc2,hc3,hsk,hlk⟩:=hcs.cell k hlt
   have hd0:=(hbk.cell (p:=⟨g,k * 4,none⟩) hg).trans hc0
   have hd1:=(hbk.cell (p:=⟨g,k * 4+1,none⟩) hg).trans hc1
   have hd2:=(hbk.cell (p:=⟨g,k * 4+2,none⟩) hg).trans hc2
   have hd3:=(hbk.cell (p:=⟨g,k * 4+3,none⟩) hg).trans hc3
   have hgr:g < wr.heap.size:=by omega
   clear hc0 hc1 hc2 hc3 hsk
   generalize cs[k]=c at *
   rw[hdr] at hnk
   have H1:Hid (zgf cs=(c.body++(cs.drop (k+1)).flatMap za5).foldl zmg (zmg (some tk) c.head)):=by rw[Hid,H.out,hdr];rfl
   simp only[List.flatMap_cons,za5,List.length_append,List.length_cons] at hnk
   generalize hR:(cs.drop (k+1)).flatMap za5=rest at *
   have HR:Hid ((cs.drop (k+1)).flatMap za5=rest):=hR
   clear hR H hdr
   cases hA:zou tk c.head with
   |none =>
    have HA:Hid (zou tk c.head=none):=hA
    have HF:Hid (zgf cs=none):=by rw[Hid,H1.out,show zmg (some tk) c.head=none from hA,zif]
    clear H1 hA
    go_wp2_with (first|(go_at_call 63;refine(z2f w.heap.size _ (w.heap.size+1) tk c.head _ _ (by exact htk.below (by go_grown)) (by omega) HA).mono ?_;rintro e w1 ⟨rfl,hb1⟩;have hB1:=zae ((Below.refl wr.heap.size wr).alloc (Nat.le_refl _) _) hb1 (Nat.le_refl _);have hBB:=zae hbk hB1 (Nat.le_refl _);have hres2:=hres.below hB1;obtain⟨hrc,hrf⟩:=hres2.rules;have hz2:=hres2.lt))
    exact bodyPost_ret (v:=.tuple #[.agg #[.slice none 0 0],.bool false]) (by simp[results,Tryz.results40,go_sem,hrc]) rfl (zm3 HF (by go_grown))
   |some t1 =>
    have HA:Hid (zou tk c.head=some t1):=hA
    have hl1:=zqj hA
    have H2:Hid (zgf cs=(c.body++rest).foldl zmg (some t1)):=by rw[Hid,H1.out,show zmg (some tk) c.head=some t1 from hA]
    clear H1 hA
    go_wp2_with (first|(go_at_call 63;refine(zw8 w.heap.size _ (w.heap.size+1) tk t1 c.head _ _ (by exact htk.below (by go_grown)) (by omega) HA (by exact Nat.le_trans hszk (by simp)) (by omega)).mono ?_;rintro e w1 ⟨rfl,ht1,hb1,hkp1⟩;have hBB:Below w.heap.size w w1:=(hbk.alloc hszk _).trans hb1;have hres2:=hkp1.box _ _ _ (by omega) (by decide) (hres.below ((Below.refl _ _).alloc (Nat.le_refl _) _));have hcb:=hkp1.box _ _ _ (by omega) (by decide) (Box.new wr _ _);obtain⟨hcc,hcf⟩:=hcb.rules;have hzc:=hcb.lt;have hz2:=hres2.lt))
    go_loopw [23] (fun i wj=>∃(j:Nat) (tj:List zav),j<=c.body.length/\i=.int .i64 j/\Below w.heap.size w wj/\TA w.heap.size wj (w.heap.size+1) tj/\Box wj w.heap.size #[.slice none 0 0] 84/\tj.length+(c.body.drop j).length+rest.length<=1000/\Hid (zgf cs=(c.body.drop j++rest).foldl zmg (some tj))) (fun i _=>c.body.length - (intOf i).toNat)
    case atStart=>exact⟨0,t1,Nat.zero_le _,rfl,hBB,ht1,hres2,(by simp;omega),H2⟩
    case round =>
     clear hcc hcf hcb hzc
     obtain⟨j,tj,hj,rfl,hbj,htj,hresj,hnj,HJ⟩:=hrel
     have hszj:=hbj.size
     have hresl:=hresj.lt
     by_cases hjl:j < c.body.length
     ·obtain⟨gl,aol,capl,rfl,hgl,hl0,hl1',hl2',_⟩:=hlk.cell j hjl
      have he0:=(hbj.cell (p:=⟨gl,j * 3,none⟩) hgl).trans hl0
      have he1:=(hbj.cell (p:=⟨gl,j * 3+1,none⟩) hgl).trans hl1'
      have he2:=(hbj.cell (p:=⟨gl,j * 3+2,none⟩) hgl).trans hl2'
      have hgj:gl < wr.heap.size:=by omega
      have hdj:=List.drop_eq_getElem_cons hjl
      clear hl0 hl1' hl2'
      generalize c.body[j]=a at *
      rw[hdj] at hnj
      have HJ1:Hid (zgf cs=(c.body.drop (j+1)++rest).foldl zmg (zmg (some tj) a)):=by rw[Hid,HJ.out,hdj];rfl
      simp only[List.length_cons] at hnj
      clear hdj HJ
      cases hA:zou tj a with
      |none =>
       have HA:Hid (zou tj a=none):=hA
       have HF:Hid (zgf cs=none):=by rw[Hid,HJ1.out,show zmg (some tj) a=none from hA,zif]
       clear HJ1 hA
       go_wp2_with (first|(go_at_call 63;refine(z2f w.heap.size _ (w.heap.size+1) tj a _ _ (by exact htj.below (by go_grown)) (by omega) HA).mono ?_;rintro e w3 ⟨rfl,hb3⟩;have hB3:=zae ((Below.refl wr.heap.size wr).alloc (Nat.le_refl _) _) hb3 (Nat.le_refl _);have hBB3:=zae hbj hB3 (Nat.le_refl _);have hres3:=hresj.below hB3;obtain⟨hrc,hrf⟩:=hres3.rules;have hz3:=hres3.lt))
       exact bodyPost_ret (v:=.tuple #[.agg #[.slice none 0 0],.bool false]) (by simp[results,Tryz.results40,go_sem,hrc]) rfl (zm3 HF (by go_grown))
      |some t2 =>
       have HA:Hid (zou tj a=some t2):=hA
       have hl2:=zqj hA
       have HJ2:Hid (zgf cs=(c.body.drop (j+1)++rest).foldl zmg (some t2)):=by rw[Hid,HJ1.out,show zmg (some tj) a=some t2 from hA]
       have htjl:w.heap.size+1 < wr.heap.size:=by obtain⟨_,hb,_⟩:=htj;exact hb.lt
       clear HJ1 hA
       go_wp2_with (first|(go_at_call 63;refine(zw8 w.heap.size _ (w.heap.size+1) tj t2 a _ _ (by exact htj.below (by go_grown)) (by omega) HA (by exact Nat.le_trans hszj (by simp)) (by omega)).mono ?_;rintro e w3 ⟨rfl,ht3,hb3,hkp3⟩;have hBB3:Below w.heap.size w w3:=(hbj.alloc hszj _).trans hb3;have hres3:=hkp3.box _ _ _ (by omega) (by decide) (hresj.below ((Below.refl _ _).alloc (Nat.le_refl _) _))))
       go_roundw
       case rel=>exact⟨j+1,t2,by omega,by go_num,hBB3,ht3,hres3,by omega,HJ2⟩
       case measure=>simp[intOf];omega
     ·have HE:Hid (zgf cs=((cs.drop (k+1)).flatMap za5).foldl zmg (some tj)):=by rw[Hid,HJ.out,List.drop_eq_nil_of_le (by omega),HR.out];rfl
      have hnr:tj.length+rest.length<=1000:=by omega
      clear HJ
      go_wp2
      go_roundw
      case rel=>exact⟨k+1,tj,by omega,by go_num,hbj,htj,hresj,by rw[HR.out];exact hnr,HE⟩
      case measure=>simp[intOf];omega
  ·have HF:Hid (zgf cs=some tk):=by rw[Hid,H.out,List.drop_eq_nil_of_le (by omega)];rfl
   obtain⟨aop,capp,hbx,hown⟩:=htk.view
   obtain⟨hc,hf⟩:=hbx.rules
   obtain⟨hrc,hrf⟩:=hres.rules
   have hbxl:=hbx.lt
   clear H
   go_wp2
   have ho2:=zb4 hown ((But.refl w.heap.size wr).setCell 0 (.slice aop tk.length capp)) hres (by decide)
   exact bodyPost_ret (v:=.tuple #[.agg #[.slice aop tk.length capp],.bool true]) (by simp[results,Tryz.results40,go_sem,hrc]) rfl (zr0 HF (by go_grown) ho2)
def z7v:ByteArray:=⟨#[40]⟩
def z7w:ByteArray:=⟨#[41]⟩
def z7x:ByteArray:=⟨#[46]⟩
end Go.Proofs.YteampbddflhngabGreat
