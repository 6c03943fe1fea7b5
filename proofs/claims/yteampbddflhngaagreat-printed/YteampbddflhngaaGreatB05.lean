import Derived.Test.YteampbddflhngaaGreatB04

namespace Go.Proofs.YteampbddflhngaaGreat
set_option maxRecDepth 100000
set_option maxHeartbeats 1000000
open Go.RowKit
variable {lo:Nat}
theorem zbw(t:ByteArray)(w:World) :
  Calls Tryz.prog 156 #[.string t] w fun e w'=>e=.returned (.bool (zbj t))/\w'=w:=by
 unfold zbj
 by_cases h:0 < t.size
 ·rw[zuw h]
  go_enter Tryz.func156,Tryz.ntmps156
  go_wp2
  all_goals go_ret
  all_goals go_light
  all_goals exact⟨by simp_all [zt4];try omega,rfl⟩
 ·rw[z7u h]
  go_enter Tryz.func156,Tryz.ntmps156
  go_wp2
  all_goals go_ret
  all_goals go_light
  all_goals exact⟨by simp_all [zt4],rfl⟩
theorem SIn.cell{w:World}{ao:Option Addr}{n cap:Nat}{vs:List ByteArray}(h:SIn lo w (.slice ao n cap) vs)(k:Nat)(hk:k < vs.length):∃ g,ao=some ⟨g,0,none⟩/\g < w.heap.size/\w.cell? ⟨g,k,none⟩=some (.string vs[k]):=by
 have ho:=h
 obtain⟨g,cap',hv,_,hg,hcl⟩:=zam ho (by omega)
 simp at hv
 exact⟨g,hv.1,hg,hcl k _ (by simp[hk])⟩
def zbl:List ByteArray->ByteArray->Option Nat
 |[],_=>none
 |y::r,n=>if y=n then some 0 else(zbl r n).map (·+1)
theorem zpp:∀ {l:List ByteArray} {n:ByteArray} {k:Nat},zbl l n=some k->∃ h:k < l.length,l[k]=n
 |[],_,_,h=>by simp[zbl] at h
 |y::r,n,k,h=>by
  unfold zbl at h
  split at h
  ·simp at h;subst h;exact⟨by simp,by simpa⟩
  ·cases hq:zbl r n with
   |none=>rw[hq] at h;simp at h
   |some j=>rw[hq] at h;simp at h;subst h;obtain⟨h1,h2⟩:=zpp hq;exact⟨by simpa using h1,by simpa using h2⟩
theorem zp9{l:List ByteArray}{n:ByteArray}{k:Nat}(hk:k < l.length)(hne:l[k]≠n):zbl (l.drop k) n=(zbl (l.drop (k+1)) n).map (·+1):=by rw[List.drop_eq_getElem_cons hk,zbl,if_neg hne]
theorem zp4{l:List ByteArray}{n:ByteArray}{k:Nat}(hk:k < l.length)(he:l[k]=n):zbl (l.drop k) n=some 0:=by rw[List.drop_eq_getElem_cons hk,zbl,if_pos he]
theorem zk3:∀(l:List ByteArray) (n:ByteArray),(zbl l n).isSome=zqz n l
 |[],n=>by rw[zxf.2 (by simp)];rfl
 |y::r,n=>by
  unfold zbl
  by_cases e:y=n
  ·rw[if_pos e,zgb.2 (by simp[e])];rfl
  ·rw[if_neg e,Option.isSome_map,zk3 r n]
   cases h:zqz n r with
   |true=>exact(zgb.2 (List.mem_cons_of_mem _ (zgb.1 h))).symm
   |false=>exact(zxf.2 (by have:=zxf.1 h;simp[this,Ne.symm e])).symm
theorem z2a(w:World)(vb:Nat)(nv:Value)(vs:List ByteArray)(t:ByteArray)(hbox:Box w vb #[nv] 246)(hs:SIn lo w nv vs)(hl:vs.length<=1000) :
  Calls Tryz.prog 200 #[.pointer (some ⟨vb,0,none⟩),.string t] w fun e w'=>e=.returned (.tuple #[.int .i64 ((zbl vs t).getD 0:Nat),.bool (zbl vs t).isSome])/\w'=w:=by
 obtain⟨hc,hf⟩:=hbox.rules
 obtain⟨ao,cap,rfl⟩:=hs.shape
 go_enter Tryz.func200,Tryz.ntmps200
 go_wp2
 go_loop [13] (fun i=>∃ k:Nat,k<=vs.length/\i=.int .i64 k/\Hid (zbl vs t=(zbl (vs.drop k) t).map (·+k))) (fun i=>vs.length - (intOf i).toNat)
 case atStart=>exact⟨0,Nat.zero_le _,rfl,by simp[Hid]⟩
 case round =>
  obtain⟨k,hk,rfl,H⟩:=hrel
  by_cases hlt:k < vs.length
  ·obtain⟨g,rfl,hg,hck⟩:=hs.cell k hlt
   by_cases hx:vs[k]=t
   ·have he:=zfo hx
    have H2:Hid (zbl vs t=some k):=by rw[Hid,H.out,zp4 hlt hx];simp
    clear hx H
    generalize vs[k]=x at *
    go_wp2
    go_ret2
    exact⟨by rw[H2.out];rfl,rfl⟩
   ·have he:=zen hx
    have H2:Hid (zbl vs t=(zbl (vs.drop (k+1)) t).map (·+(k+1))):=by
     rw[Hid,H.out,zp9 hlt hx];cases zbl (vs.drop (k+1)) t <;> simp;omega
    clear hx H
    generalize vs[k]=x at *
    go_wp2
    go_round
    case rel=>exact⟨k+1,by omega,by go_num,H2⟩
    case measure=>simp[intOf];omega
  ·have H2:Hid (zbl vs t=none):=by rw[Hid,H.out,List.drop_eq_nil_of_le (by omega)];rfl
   clear H
   go_wp2
   go_ret2
   exact⟨by rw[H2.out];rfl,rfl⟩
theorem ztj(w:World)(vb:Nat)(nv:Value)(vs:List ByteArray)(t:ByteArray)(hbox:Box w vb #[nv] 246)(hs:SIn lo w nv vs)(hl:vs.length<=1000) :
  Calls Tryz.prog 183 #[.pointer (some ⟨vb,0,none⟩),.string t] w fun e w'=>e=.returned (.bool (zqz t vs))/\w'=w:=by
 rw[← zk3 vs t]
 have HP:Hid (Calls Tryz.prog 200 #[.pointer (some ⟨vb,0,none⟩),.string t] w fun e w'=>e=.returned (.tuple #[.int .i64 ((zbl vs t).getD 0:Nat),.bool (zbl vs t).isSome])/\w'=w):=z2a w vb nv vs t hbox hs hl
 generalize zbl vs t=o at *
 go_enter Tryz.func183,Tryz.ntmps183
 go_wp2_with (first|(go_at_call 200;refine HP.out.mono ?_;rintro e w' ⟨rfl,rfl⟩;clear HP))
 go_ret
 exact⟨rfl,rfl⟩
end Go.Proofs.YteampbddflhngaaGreat

namespace Go.Proofs.YteampbddflhngaaGreat
set_option maxRecDepth 100000
set_option maxHeartbeats 1000000
open Go.RowKit
variable {lo:Nat}
theorem Box.set{w:World}{b:Nat}{c:Array Value}{T:TypeId}(h:Box w b c T)(o:Nat)(u:Value):Box (w.setCell ⟨b,o,none⟩ u) b (c.setIfInBounds o u) T:=by
 unfold Box at *;simp[World.setCell,Array.getElem?_modify,h]
theorem Box.set_ne{w:World}{b b':Nat}{c:Array Value}{T:TypeId}(h:Box w b c T)(hne:b≠b')(o:Nat)(u:Value):Box (w.setCell ⟨b',o,none⟩ u) b c T:=by
 unfold Box at *;rw[Below.heap_setCell _ _ _ _ hne];exact h
theorem Box.push{wO w2:World}{b:Nat}{e T:TypeId}{s:Nat}{v:Value}{n bb:Nat}{xs:List Value}{c:Array Value}(hv:wO.ownsRow b e s v n xs)(hne:e≠T)(h:Box wO bb c T)
  (hk:∀ k,k < wO.heap.size->some k≠v.ownBlock->w2.heap[k]?=wO.heap[k]?):Box w2 bb c T:=by
 have hlt:=h.lt
 unfold Box at *
 rw[hk bb hlt ?_]
 ·exact h
 ·intro he
  obtain⟨_,⟨hv0,_⟩|⟨g',cap',cur',hv',_,hh',_⟩⟩:=hv
  ·subst hv0;cases he
  ·subst hv';simp only[Value.ownBlock,Option.some.injEq] at he;subst he;rw[h] at hh';simp at hh';exact hne hh'.2.symm
structure zq1 (vb:Nat) (w w':World):Prop where
 size:w.heap.size<=w'.heap.size
 box:∀ b c T,b≠vb->T≠9->Box w b c T->Box w' b c T
theorem zq1.trans{vb:Nat}{a b c:World}(h:zq1 vb a b)(k:zq1 vb b c):zq1 vb a c:=⟨Nat.le_trans h.size k.size,fun x y z h1 h2 h3=>k.box x y z h1 h2 (h.box x y z h1 h2 h3)⟩
theorem zq1.of{vb:Nat}{w w':World}(h:Below w.heap.size w w'):zq1 vb w w':=⟨h.size,fun _ _ _ _ _ k=>k.below h⟩
def VA(B:Nat)(w:World)(vb:Nat)(vs:List ByteArray):Prop:=∃ nv,Box w vb #[nv] 246/\w.ownsRow B 9 1 nv vs.length (vs.map Value.string)
theorem VA.below{B:Nat}{w w':World}{vb:Nat}{vs:List ByteArray}(h:VA B w vb vs)(hb:Below w.heap.size w w'):VA B w' vb vs:=by
 obtain⟨nv,h1,h2⟩:=h;exact⟨nv,h1.below hb,zab h2 hb⟩
theorem z1v(vs args:List ByteArray)(k:Nat)(hk:k < args.length):ze6 vs (args.take (k+1))=zt7 (ze6 vs (args.take k)) args[k]:=by
 unfold ze6;rw[List.take_succ_eq_append_getElem hk,List.foldl_append];rfl
theorem z9v{vs:List ByteArray}{t:ByteArray}(h1:zbj t=true)(h2:zqz t vs=false):zt7 vs t=vs++[t]:=by simp[zt7,h1,h2]
theorem yaj{vs:List ByteArray}{t:ByteArray}(h1:zbj t=false):zt7 vs t=vs:=by simp[zt7,h1]
theorem z8u{vs:List ByteArray}{t:ByteArray}(h2:zqz t vs=true):zt7 vs t=vs:=by simp[zt7,h2]
theorem add_any(w0 w:World)(vb:Nat)(vs args:List ByteArray)(neg:Bool)(pred:ByteArray)(va:Value)(h0:Below w0.heap.size w0 w)(hs:SIn lo w0 va args)(hva:VA w0.heap.size w vb vs)(hvb:w0.heap.size<=vb)(hl:vs.length+args.length<=1000) :
  Calls Tryz.prog 182 #[.pointer (some ⟨vb,0,none⟩),.agg #[.bool neg,.string pred,va]] w fun e w'=>e=.returned (.tuple #[])/\VA w0.heap.size w' vb (ze6 vs args)/\Below w0.heap.size w0 w'/\zq1 vb w w':=by
 obtain⟨i0,hi,hz0,hzs,hzb⟩:=info_parts Tryz.infoString
 obtain⟨ao,cap,rfl⟩:=hs.shape
 have hsz0:=h0.size
 go_enter Tryz.func182,Tryz.ntmps182
 go_wp2
 go_loopw [9] (fun i wr=>∃ k:Nat,k<=args.length/\i=.int .i64 k/\VA w0.heap.size wr vb (ze6 vs (args.take k))/\Below w0.heap.size w0 wr/\zq1 vb w wr) (fun i _=>args.length - (intOf i).toNat)
 case atStart =>
  have hb:=(Below.refl w.heap.size w).alloc (Nat.le_refl _) (.cells #[.bool neg,.string pred,.slice ao args.length cap] 90)
  exact⟨0,Nat.zero_le _,rfl,hva.below hb,zad h0 hb (Nat.le_refl _),zq1.of hb⟩
 case round =>
  obtain⟨k,hk,rfl,hvk,hbk,hkk⟩:=hrel
  by_cases hlt:k < args.length
  ·obtain⟨g,rfl,hg,hck⟩:=(hs.below hbk).cell k hlt
   have hsn:=z1v vs args k hlt
   have hlen:=zlx (args.take k) vs
   have htk:(args.take k).length=k:=by simp;omega
   rw[htk] at hlen
   clear htk
   generalize args[k]=t at *
   generalize ze6 vs (args.take k)=vk at *
   have HS:Hid (ze6 vs (args.take (k+1))=zt7 vk t):=hsn
   clear hsn
   cases hT:zbj t with
   |false =>
    have hR:ze6 vs (args.take (k+1))=vk:=by rw[HS.out,yaj hT]
    have HR:Hid (ze6 vs (args.take (k+1))=vk):=hR
    clear hR HS
    go_wp2_with (go_at_call 156;refine(zbw _ _).mono ?_;rintro e w' ⟨rfl,rfl⟩)
    go_roundw
    case rel=>exact⟨k+1,by omega,by go_num,by rw[HR.out];exact hvk,hbk,hkk⟩
    case measure=>simp[intOf];omega
   |true =>
    obtain⟨nv,hbx,hown⟩:=hvk
    obtain⟨ao2,cap2,rfl⟩:=zac hown
    obtain⟨hc,hf⟩:=hbx.rules
    cases hM:zqz t vk with
    |true =>
     have hR:ze6 vs (args.take (k+1))=vk:=by rw[HS.out,z8u hM]
     have HR:Hid (ze6 vs (args.take (k+1))=vk):=hR
     clear hR HS
     go_wp2_with (first|(go_at_call 156;refine(zbw _ _).mono ?_;rintro e w' ⟨rfl,rfl⟩)|(go_at_call 183;refine(ztj _ vb _ vk t hbx hown (by omega)).mono ?_;rintro e w' ⟨rfl,rfl⟩))
     go_roundw
     case rel=>exact⟨k+1,by omega,by go_num,by rw[HR.out];exact⟨_,hbx,hown⟩,hbk,hkk⟩
     case measure=>simp[intOf];omega
    |false =>
     have hR:ze6 vs (args.take (k+1))=vk++[t]:=by rw[HS.out,z9v hT hM]
     have HR:Hid (ze6 vs (args.take (k+1))=vk++[t]):=hR
     clear hR HS
     go_wp2_with (first|(go_at_call 156;refine(zbw _ _).mono ?_;rintro e w' ⟨rfl,rfl⟩)|(go_at_call 183;refine(ztj _ vb _ vk t hbx hown (by omega)).mono ?_;rintro e w' ⟨rfl,rfl⟩)|(at_builtin;refine zg6 _ _ _ _ rfl (.tmp 25) (.tmp 27) 30 rfl w0.heap.size 9 i0 _ 1 16 Tryz.underlying30 hi hz0 hzs hzb rfl (by decide) _ _ _ rfl hown (Below.refl _ _) _ _ rfl (by simp) rfl (by simp[Value.oneCell']) (by omega) (by omega) hbk.size ?_;intro v' w2 ho2 hB2 hc2 hf2 hk2 hz2';clear hc2 hf2;obtain⟨ao3,cap3,rfl⟩:=zac ho2;have hbx2:=Box.push hown (by decide) hbx hk2;obtain⟨hc3,hf3⟩:=hbx2.rules))
     have hkb:zq1 vb w' (w2.setCell ⟨vb,0,none⟩ (.slice ao3 (vk.length+1) cap3)):=⟨by simp[World.setCell];exact hz2',fun b c T h1 h2 h3=>(Box.push hown (Ne.symm h2) h3 hk2).set_ne h1 _ _⟩
     have hva2:VA w0.heap.size (w2.setCell ⟨vb,0,none⟩ (.slice ao3 (vk.length+1) cap3)) vb (vk++[t]):=⟨_,hbx2.set 0 _,by
      have:=zb8 ho2 ((But.refl vb w2).setCell 0 (.slice ao3 (vk.length+1) cap3)) hbx2 (by decide)
      simpa using this⟩
     go_roundw
     case rel=>exact⟨k+1,by omega,by go_num,by rw[HR.out];exact hva2,(hbk.trans hB2).setCell hvb _,hkk.trans hkb⟩
     case measure=>simp[intOf];omega
  ·have hE:args.take k=args:=List.take_of_length_le (by omega)
   rw[hE] at hvk
   clear hE
   go_wp2
   go_end0
   exact⟨rfl,hvk,hbk,hkk⟩
end Go.Proofs.YteampbddflhngaaGreat

namespace Go.Proofs.YteampbddflhngaaGreat
set_option maxRecDepth 100000
set_option maxHeartbeats 1000000
open Go.RowKit
variable {lo:Nat}
theorem LIn.cell{w:World}{ao:Option Addr}{n cap:Nat}{ls:List zbc}(h:LIn lo w (.slice ao n cap) ls)(k:Nat)(hk:k < ls.length):∃ g ao2 cap2,ao=some ⟨g,0,none⟩/\g < w.heap.size ∧
  w.cell? ⟨g,k * 3,none⟩=some (.bool ls[k].neg)/\w.cell? ⟨g,k * 3+1,none⟩=some (.string ls[k].pred)/\w.cell? ⟨g,k * 3+2,none⟩=some (.slice ao2 ls[k].args.length cap2)/\SIn lo w (.slice ao2 ls[k].args.length cap2) ls[k].args:=by
 obtain⟨xs,ho,hc⟩:=h
 obtain⟨g,cap',hv,_,hg,hcl⟩:=zam ho (by omega)
 simp at hv
 obtain⟨va,a1,a2,a3,a4⟩:=hc.at k ls[k] (by simp[hk])
 obtain⟨ao2,cap2,rfl⟩:=a4.shape
 exact⟨g,ao2,cap2,hv.1,hg,hcl _ _ a1,hcl _ _ a2,hcl _ _ a3,a4⟩
def zko(vs:List ByteArray)(l:zbc):List ByteArray:=ze6 vs l.args
def zew(vs:List ByteArray)(l:zbc):List ByteArray:=if l.neg then vs else ze6 vs l.args
def zk7(c:zaa):List ByteArray:=c.body.foldl zko (ze6 [] c.head.args)
def zai(c:zaa):List ByteArray:=c.body.foldl zew []
def zcf(ls:List zbc):Nat:=ls.foldr (fun l n=>l.args.length+n) 0
theorem zhm(ls:List zbc):∀ k,k < ls.length->zcf (ls.take k)+(ls[k]?.map (·.args.length)).getD 0<=zcf ls:=by
 induction ls with
 |nil=>intro k h;simp at h
 |cons a ls ih =>
  intro k h
  cases k with
  |zero=>simp[zcf]
  |succ k=>have:=ih k (by simpa using h);simp[zcf] at this ⊢;omega
theorem z4u(ls:List zbc):∀ vs:List ByteArray,(ls.foldl zko vs).length<=vs.length+zcf ls:=by
 induction ls with
 |nil=>intro vs;simp[zcf]
 |cons a ls ih=>intro vs;have:=ih (zko vs a);have:=zlx a.args vs;simp[zcf,zko] at *;omega
theorem zjv(ls:List zbc):∀ vs:List ByteArray,(ls.foldl zew vs).length<=vs.length+zcf ls:=by
 induction ls with
 |nil=>intro vs;simp[zcf]
 |cons a ls ih =>
  intro vs
  have h1:=ih (zew vs a)
  have h2:=zlx a.args vs
  have h3:(zew vs a).length<=vs.length+a.args.length:=by unfold zew;split <;> omega
  simp[zcf] at *;omega
theorem ybq(w:World)(c:zaa)(va vb:Value)(hs:SIn lo w va c.head.args)(hb:LIn lo w vb c.body)(hl:c.head.args.length+zcf c.body<=1000)(hl2:c.body.length<=1000) :
  Calls Tryz.prog 145 #[.agg #[.bool c.head.neg,.string c.head.pred,va,vb]] w fun e w'=>∃ nv,e=.returned (.agg #[nv])/\w'.ownsRow w.heap.size 9 1 nv (zk7 c).length ((zk7 c).map Value.string)/\Below w.heap.size w w':=by
 obtain⟨ao,cap,rfl⟩:=hs.shape
 obtain⟨aob,capb,rfl⟩:=hb.shape
 have hb0:Below w.heap.size w (((w.alloc (.cells #[.bool c.head.neg,.string c.head.pred,.slice ao c.head.args.length cap,.slice aob c.body.length capb] 171)).alloc (.cells #[.slice none 0 0] 246)).alloc (.cells #[.slice none 0 0] 246)):=(by repeat'(first|with_reducible(first|exact zR _ _|assumption|refine zN ?_ _|refine zA ?_ ?_ _|refine zD ?_|refine zS ?_ ?_ _)|go_size))
 have hva0:VA w.heap.size (((w.alloc (.cells #[.bool c.head.neg,.string c.head.pred,.slice ao c.head.args.length cap,.slice aob c.body.length capb] 171)).alloc (.cells #[.slice none 0 0] 246)).alloc (.cells #[.slice none 0 0] 246)) (w.heap.size+2) []:=⟨_,by have:=Box.new ((w.alloc (.cells #[.bool c.head.neg,.string c.head.pred,.slice ao c.head.args.length cap,.slice aob c.body.length capb] 171)).alloc (.cells #[.slice none 0 0] 246)) #[.slice none 0 0] 246;simpa using this,World.ownsRow_nil _ _ _ _⟩
 have hres0:Box (((w.alloc (.cells #[.bool c.head.neg,.string c.head.pred,.slice ao c.head.args.length cap,.slice aob c.body.length capb] 171)).alloc (.cells #[.slice none 0 0] 246)).alloc (.cells #[.slice none 0 0] 246)) (w.heap.size+1) #[.slice none 0 0] 246:=by have:=(Box.new (w.alloc (.cells #[.bool c.head.neg,.string c.head.pred,.slice ao c.head.args.length cap,.slice aob c.body.length capb] 171)) #[.slice none 0 0] 246).below ((Below.refl _ _).alloc (Nat.le_refl _) (.cells #[.slice none 0 0] 246));simpa using this
 have hbx0:Box (((w.alloc (.cells #[.bool c.head.neg,.string c.head.pred,.slice ao c.head.args.length cap,.slice aob c.body.length capb] 171)).alloc (.cells #[.slice none 0 0] 246)).alloc (.cells #[.slice none 0 0] 246)) w.heap.size #[.bool c.head.neg,.string c.head.pred,.slice ao c.head.args.length cap,.slice aob c.body.length capb] 171:=((Box.new w _ _).below ((Below.refl _ _).alloc (Nat.le_refl _) _)).below ((Below.refl _ _).alloc (Nat.le_refl _) _)
 go_enter Tryz.func145,Tryz.ntmps145
 go_wp2_with (first|(go_at_call 182;refine(add_any w _ (w.heap.size+2) [] c.head.args _ _ _ (by exact hb0) hs (by exact hva0) (by omega) (by simp;omega)).mono ?_;rintro e w1 ⟨rfl,hva1,hb1,hk1⟩;have hres1:=hk1.box _ _ _ (by omega) (by decide) hres0;have hbx1:=hk1.box _ _ _ (by omega) (by decide) hbx0;obtain⟨hbc,hbf⟩:=hbx1.rules;have hsz1:=hbx1.lt))
 go_loopw [12] (fun i wr=>∃ k:Nat,k<=c.body.length/\i=.int .i64 k/\VA w.heap.size wr (w.heap.size+2) ((c.body.take k).foldl zko (ze6 [] c.head.args))/\Below w.heap.size w wr/\Box wr (w.heap.size+1) #[.slice none 0 0] 246) (fun i _=>c.body.length - (intOf i).toNat)
 case atStart=>exact⟨0,Nat.zero_le _,rfl,hva1,hb1,hres1⟩
 case round =>
  obtain⟨k,hk,rfl,hvk,hbk,hrk⟩:=hrel
  have hszk:=hbk.size
  by_cases hlt:k < c.body.length
  ·obtain⟨g,ao2,cap2,rfl,hg,hc0,hc1,hc2,hsk⟩:=hb.cell k hlt
   have hd0:=(hbk.cell (p:=⟨g,k * 3,none⟩) hg).trans hc0
   have hd1:=(hbk.cell (p:=⟨g,k * 3+1,none⟩) hg).trans hc1
   have hd2:=(hbk.cell (p:=⟨g,k * 3+2,none⟩) hg).trans hc2
   have hgr:g < wr.heap.size:=by omega
   have hlen:=z4u (c.body.take k) (ze6 [] c.head.args)
   have hst:=zhm c.body k hlt
   have hlen0:=zlx c.head.args []
   have hsn:(c.body.take (k+1)).foldl zko (ze6 [] c.head.args)=zko ((c.body.take k).foldl zko (ze6 [] c.head.args)) c.body[k]:=by rw[List.take_succ_eq_append_getElem hlt,List.foldl_append];rfl
   rw[List.getElem?_eq_getElem hlt] at hst
   simp only[Option.map_some,Option.getD_some] at hst
   clear hc0 hc1 hc2
   generalize c.body[k]=a at *
   generalize (c.body.take k).foldl zko (ze6 [] c.head.args)=vk at *
   have HS:Hid ((c.body.take (k+1)).foldl zko (ze6 [] c.head.args)=zko vk a):=hsn
   clear hsn
   go_wp2_with (first|(go_at_call 182;refine(add_any w _ (w.heap.size+2) vk a.args _ _ _ (by exact(by repeat'(first|with_reducible(first|exact zR _ _|assumption|refine zN ?_ _|refine zA ?_ ?_ _|refine zD ?_|refine zS ?_ ?_ _)|go_size))) hsk (by exact hvk.below (by repeat'(first|with_reducible(first|exact zR _ _|assumption|refine zN ?_ _|refine zA ?_ ?_ _|refine zD ?_|refine zS ?_ ?_ _)|go_size))) (by omega) (by simp at *;omega)).mono ?_;rintro e w1 ⟨rfl,hva1,hb1,hk1⟩;have hres1:=hk1.box _ _ _ (by omega) (by decide) (hrk.below (by repeat'(first|with_reducible(first|exact zR _ _|assumption|refine zN ?_ _|refine zA ?_ ?_ _|refine zD ?_|refine zS ?_ ?_ _)|go_size)))))
   go_roundw
   case rel=>exact⟨k+1,by omega,by go_num,by rw[HS.out];exact hva1,hb1,hres1⟩
   case measure=>simp[intOf];omega
  ·have hE:c.body.take k=c.body:=List.take_of_length_le (by omega)
   rw[hE] at hvk
   obtain⟨nv,hbx,hown⟩:=hvk
   obtain⟨ao3,cap3,rfl⟩:=zac hown
   obtain⟨hc,hf⟩:=hbx.rules
   obtain⟨hc2,hf2⟩:=hrk.rules
   have hz1:=hbx.lt
   clear hE
   go_wp2
   have ho2:=zb8 hown ((But.refl (w.heap.size+1) wr).setCell 0 (.slice ao3 (c.body.foldl zko (ze6 [] c.head.args)).length cap3)) hrk (by decide)
   exact bodyPost_ret (v:=.agg #[.slice ao3 (c.body.foldl zko (ze6 [] c.head.args)).length cap3]) (by simp[results,Tryz.results145,go_sem,hc2]) rfl ⟨_,rfl,ho2,(by repeat'(first|with_reducible(first|exact zR _ _|assumption|refine zN ?_ _|refine zA ?_ ?_ _|refine zD ?_|refine zS ?_ ?_ _)|go_size))⟩
theorem zo1(w:World)(c:zaa)(va vb:Value)(hs:SIn lo w va c.head.args)(hb:LIn lo w vb c.body)(hl:c.head.args.length+zcf c.body<=1000)(hl2:c.body.length<=1000) :
  Calls Tryz.prog 148 #[.agg #[.bool c.head.neg,.string c.head.pred,va,vb]] w fun e w'=>∃ nv,e=.returned (.agg #[nv])/\w'.ownsRow w.heap.size 9 1 nv (zai c).length ((zai c).map Value.string)/\Below w.heap.size w w':=by
 obtain⟨ao,cap,rfl⟩:=hs.shape
 obtain⟨aob,capb,rfl⟩:=hb.shape
 have hb0:Below w.heap.size w (((w.alloc (.cells #[.bool c.head.neg,.string c.head.pred,.slice ao c.head.args.length cap,.slice aob c.body.length capb] 171)).alloc (.cells #[.slice none 0 0] 246)).alloc (.cells #[.slice none 0 0] 246)):=(by repeat'(first|with_reducible(first|exact zR _ _|assumption|refine zN ?_ _|refine zA ?_ ?_ _|refine zD ?_|refine zS ?_ ?_ _)|go_size))
 have hva0:VA w.heap.size (((w.alloc (.cells #[.bool c.head.neg,.string c.head.pred,.slice ao c.head.args.length cap,.slice aob c.body.length capb] 171)).alloc (.cells #[.slice none 0 0] 246)).alloc (.cells #[.slice none 0 0] 246)) (w.heap.size+2) []:=⟨_,by have:=Box.new ((w.alloc (.cells #[.bool c.head.neg,.string c.head.pred,.slice ao c.head.args.length cap,.slice aob c.body.length capb] 171)).alloc (.cells #[.slice none 0 0] 246)) #[.slice none 0 0] 246;simpa using this,World.ownsRow_nil _ _ _ _⟩
 have hres0:Box (((w.alloc (.cells #[.bool c.head.neg,.string c.head.pred,.slice ao c.head.args.length cap,.slice aob c.body.length capb] 171)).alloc (.cells #[.slice none 0 0] 246)).alloc (.cells #[.slice none 0 0] 246)) (w.heap.size+1) #[.slice none 0 0] 246:=by have:=(Box.new (w.alloc (.cells #[.bool c.head.neg,.string c.head.pred,.slice ao c.head.args.length cap,.slice aob c.body.length capb] 171)) #[.slice none 0 0] 246).below ((Below.refl _ _).alloc (Nat.le_refl _) (.cells #[.slice none 0 0] 246));simpa using this
 have hbx0:Box (((w.alloc (.cells #[.bool c.head.neg,.string c.head.pred,.slice ao c.head.args.length cap,.slice aob c.body.length capb] 171)).alloc (.cells #[.slice none 0 0] 246)).alloc (.cells #[.slice none 0 0] 246)) w.heap.size #[.bool c.head.neg,.string c.head.pred,.slice ao c.head.args.length cap,.slice aob c.body.length capb] 171:=((Box.new w _ _).below ((Below.refl _ _).alloc (Nat.le_refl _) _)).below ((Below.refl _ _).alloc (Nat.le_refl _) _)
 go_enter Tryz.func148,Tryz.ntmps148
 go_wp2
 go_loopw [9] (fun i wr=>∃ k:Nat,k<=c.body.length/\i=.int .i64 k/\VA w.heap.size wr (w.heap.size+2) ((c.body.take k).foldl zew [])/\Below w.heap.size w wr/\Box wr (w.heap.size+1) #[.slice none 0 0] 246) (fun i _=>c.body.length - (intOf i).toNat)
 case atStart=>exact⟨0,Nat.zero_le _,rfl,hva0,hb0,hres0⟩
 case round =>
  obtain⟨k,hk,rfl,hvk,hbk,hrk⟩:=hrel
  have hszk:=hbk.size
  by_cases hlt:k < c.body.length
  ·obtain⟨g,ao2,cap2,rfl,hg,hc0,hc1,hc2,hsk⟩:=hb.cell k hlt
   have hd0:=(hbk.cell (p:=⟨g,k * 3,none⟩) hg).trans hc0
   have hd1:=(hbk.cell (p:=⟨g,k * 3+1,none⟩) hg).trans hc1
   have hd2:=(hbk.cell (p:=⟨g,k * 3+2,none⟩) hg).trans hc2
   have hgr:g < wr.heap.size:=by omega
   have hlen:=zjv (c.body.take k) []
   have hst:=zhm c.body k hlt
   have hlen0:True:=trivial
   have hsn:(c.body.take (k+1)).foldl zew []=zew ((c.body.take k).foldl zew []) c.body[k]:=by rw[List.take_succ_eq_append_getElem hlt,List.foldl_append];rfl
   rw[List.getElem?_eq_getElem hlt] at hst
   simp only[Option.map_some,Option.getD_some] at hst
   clear hc0 hc1 hc2
   generalize c.body[k]=a at *
   generalize (c.body.take k).foldl zew []=vk at *
   have HS:Hid ((c.body.take (k+1)).foldl zew []=zew vk a):=hsn
   clear hsn
   cases hN:a.neg with
   |true =>
    rw[hN] at hd0
    have HR:Hid ((c.body.take (k+1)).foldl zew []=vk):=by rw[Hid,HS.out,zew,hN,if_pos rfl]
    clear HS hN
    go_wp2
    go_roundw
    case rel=>exact⟨k+1,by omega,by go_num,by rw[HR.out];exact hvk.below (by repeat'(first|with_reducible(first|exact zR _ _|assumption|refine zN ?_ _|refine zA ?_ ?_ _|refine zD ?_|refine zS ?_ ?_ _)|go_size)),(by repeat'(first|with_reducible(first|exact zR _ _|assumption|refine zN ?_ _|refine zA ?_ ?_ _|refine zD ?_|refine zS ?_ ?_ _)|go_size)),hrk.below (by repeat'(first|with_reducible(first|exact zR _ _|assumption|refine zN ?_ _|refine zA ?_ ?_ _|refine zD ?_|refine zS ?_ ?_ _)|go_size))⟩
    case measure=>simp[intOf];omega
   |false =>
    rw[hN] at hd0
    have HR:Hid ((c.body.take (k+1)).foldl zew []=ze6 vk a.args):=by rw[Hid,HS.out,zew,hN];rfl
    clear HS hN
    go_wp2_with (first|(go_at_call 182;refine(add_any w _ (w.heap.size+2) vk a.args _ _ _ (by exact(by repeat'(first|with_reducible(first|exact zR _ _|assumption|refine zN ?_ _|refine zA ?_ ?_ _|refine zD ?_|refine zS ?_ ?_ _)|go_size))) hsk (by exact hvk.below (by repeat'(first|with_reducible(first|exact zR _ _|assumption|refine zN ?_ _|refine zA ?_ ?_ _|refine zD ?_|refine zS ?_ ?_ _)|go_size))) (by omega) (by simp at *;omega)).mono ?_;rintro e w1 ⟨rfl,hva1,hb1,hk1⟩;have hres1:=hk1.box _ _ _ (by omega) (by decide) (hrk.below (by repeat'(first|with_reducible(first|exact zR _ _|assumption|refine zN ?_ _|refine zA ?_ ?_ _|refine zD ?_|refine zS ?_ ?_ _)|go_size)))))
    go_roundw
    case rel=>exact⟨k+1,by omega,by go_num,by rw[HR.out];exact hva1,hb1,hres1⟩
    case measure=>simp[intOf];omega
  ·have hE:c.body.take k=c.body:=List.take_of_length_le (by omega)
   rw[hE] at hvk
   obtain⟨nv,hbx,hown⟩:=hvk
   obtain⟨ao3,cap3,rfl⟩:=zac hown
   obtain⟨hc,hf⟩:=hbx.rules
   obtain⟨hc2,hf2⟩:=hrk.rules
   have hz1:=hbx.lt
   clear hE
   go_wp2
   have ho2:=zb8 hown ((But.refl (w.heap.size+1) wr).setCell 0 (.slice ao3 (c.body.foldl zew []).length cap3)) hrk (by decide)
   exact bodyPost_ret (v:=.agg #[.slice ao3 (c.body.foldl zew []).length cap3]) (by simp[results,Tryz.results148,go_sem,hc2]) rfl ⟨_,rfl,ho2,(by repeat'(first|with_reducible(first|exact zR _ _|assumption|refine zN ?_ _|refine zA ?_ ?_ _|refine zD ?_|refine zS ?_ ?_ _)|go_size))⟩
end Go.Proofs.YteampbddflhngaaGreat
