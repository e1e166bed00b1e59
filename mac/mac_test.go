package mac

import (
	"crypto/hmac"
	"crypto/sha256"
	"encoding/binary"
	"encoding/hex"
	"math"
	"strings"
	"testing"
	"unsafe"

	"tenement/api"
)

// text has many bytes, by a rule that repeats late.
func text(many int) string {
	bytes := make([]byte, many)
	x := uint32(1)
	for i := range bytes {
		x = x*1664525 + 1013904223
		bytes[i] = byte(x >> 24)
	}
	return string(bytes)
}

// turned is s with one bit turned.
func turned(s string, bit int) string {
	bytes := []byte(s)
	bytes[bit/8] ^= 1 << (bit % 8)
	return string(bytes)
}

// librarySum is the keyed digest as the library works it out.
func librarySum(key, s string) string {
	digest := hmac.New(sha256.New, []byte(key))
	digest.Write([]byte(s))
	return string(digest.Sum(nil))
}

// signed is a claim with the library's keyed digest behind it, whether the claim is one that may be minted or not.
func signed(key, claim string) string {
	return claim + librarySum(key, claim)
}

// eight is n in eight bytes.
func eight(n uint64) string {
	return string(binary.BigEndian.AppendUint64(nil, n))
}

// keys: of none, of one byte, on both sides of a digest's bytes and of a block's, and of far more.
func keys() []string {
	out := []string{"", "k", "key", "Jefe", "größe, 日本", "\xff\xfe\xc3("}
	for _, many := range []int{31, 32, 33, 62, 63, 64, 65, 66, 127, 128, 129, 131, 1000, 1 << 16} {
		out = append(out, text(many), strings.Repeat("\x36", many), strings.Repeat("\x5c", many))
	}
	return out
}

// buckets: of 1 byte, of MaxKey bytes, and of each number between them, with bytes that look like a length or an end.
func buckets() []string {
	out := []string{"b", "\x00", "\x80", "\xff\xff", "\x01b", "日本", "\xc3("}
	for many := 1; many <= 16; many++ {
		out = append(out, text(many), strings.Repeat("\x00", many))
	}
	return out
}

// untils: the least and the greatest that may be opened, and such as lie at the edge of a byte.
func untils() []uint64 {
	return []uint64{1, 2, 10, 255, 256, 1 << 32, 1<<60 + 5, 1 << 63, math.MaxUint64 - 1, math.MaxUint64}
}

// rightTokens: each tenant, each rights, and each of the buckets and untils.
func rightTokens() (out []Token) {
	for tenant := 1; tenant <= 8; tenant++ {
		for rights := 1; rights <= 3; rights++ {
			for _, bucket := range buckets() {
				for _, until := range untils() {
					out = append(out, Token{tenant, bucket, rights, until})
				}
			}
		}
	}
	return out
}

// wrongTokens are not right, each by one field alone, or by all; some have a right byte as their lowest.
func wrongTokens() []Token {
	out := []Token{{}, {9, strings.Repeat("b", 17), 4, 10}}
	for _, tenant := range []int{0, -1, -8, 9, 10, 255, 256, 257, 256 + 8, 1<<32 + 1, math.MaxInt, math.MinInt, math.MinInt + 1} {
		out = append(out, Token{tenant, "b", 1, 10})
	}
	for _, bucket := range []string{"", strings.Repeat("b", 17), "日本日本日本", text(32), text(128), text(272), text(4096)} {
		out = append(out, Token{1, bucket, 1, 10})
	}
	for _, rights := range []int{0, -1, -3, 4, 5, 7, 8, 255, 256, 257, 1<<32 + 1, math.MaxInt, math.MinInt, math.MinInt + 1} {
		out = append(out, Token{1, "b", rights, 10})
	}
	return out
}

// mint is what t is minted as; a test of a right token goes on with it.
func mint(t *testing.T, key string, token Token) string {
	t.Helper()
	s, ok := Mint(key, token)
	if !ok {
		t.Fatalf("Mint of %+v is refused", token)
	}
	return s
}

// wantOpen: s is opened as that token.
func wantOpen(t *testing.T, key, s string, now uint64, want Token) {
	t.Helper()
	if got, e := Open(key, s, now); e != api.OK || got != want {
		t.Errorf("Open(%.20q, %q, %d) = %+v, %d; want %+v", key, s, now, got, e, want)
	}
}

// wantDeny: s is denied, and nothing of it is told.
func wantDeny(t *testing.T, key, s string, now uint64) {
	t.Helper()
	if got, e := Open(key, s, now); e != api.ErrDeny || got != (Token{}) {
		t.Errorf("Open(%.20q, %.100q, %d) = %+v, %d; want nothing, and ErrDeny", key, s, now, got, e)
	}
}

// TestSumKnown (P4.1): RFC 4231's own examples, of which the fifth is told in its first 16 bytes alone.
func TestSumKnown(t *testing.T) {
	counted := "\x01\x02\x03\x04\x05\x06\x07\x08\x09\x0a\x0b\x0c\x0d\x0e\x0f\x10\x11\x12\x13\x14\x15\x16\x17\x18\x19"
	known := []struct{ key, text, want string }{
		{strings.Repeat("\x0b", 20), "Hi There", "b0344c61d8db38535ca8afceaf0bf12b881dc200c9833da726e9376c2e32cff7"},
		{"Jefe", "what do ya want for nothing?", "5bdcc146bf60754e6a042426089575c75a003f089d2739839dec58b964ec3843"},
		{strings.Repeat("\xaa", 20), strings.Repeat("\xdd", 50), "773ea91e36800e46854db8ebd09181a72959098b3ef8c122d9635514ced565fe"},
		{counted, strings.Repeat("\xcd", 50), "82558a389a443c0ea4cc819899f2083a85f0faa3e578f8077a2e3ff46729665b"},
		{strings.Repeat("\x0c", 20), "Test With Truncation", "a3b6167473100ee06e0c796c2955552b"},
		{strings.Repeat("\xaa", 131), "Test Using Larger Than Block-Size Key - Hash Key First", "60e431591ee0b67f0d8a26aacbf5b77f8e0bc6213728c5140546040f0ee37f54"},
		{strings.Repeat("\xaa", 131), "This is a test using a larger than block-size key and a larger than block-size data. The key needs to be hashed before being used by the HMAC algorithm.", "9b09ffa71b942fcb27635fbcd5b0e944bfdc63644f0713938a7f51535c3a35e2"},
		{"", "", "b613679a0814d9ec772f95d778c35fc5ff1697c493715653c6c712144292c5ad"},
	}
	for _, k := range known {
		if got := hex.EncodeToString([]byte(Sum(k.key, k.text))); !strings.HasPrefix(got, k.want) {
			t.Errorf("Sum(%q, %q) = %s, want %s", k.key, k.text, got, k.want)
		}
	}
}

// TestSumLibrary (P4.1): as the library's, with keys of every number of bytes around a block's, and texts likewise.
func TestSumLibrary(t *testing.T) {
	texts := []string{"", "a", "\x00", "\xff\xfe\xc3(", "größe, 日本", text(31), text(32), text(55), text(56), text(63), text(64), text(65), text(1000), text(1 << 16)}
	all := keys()
	for many := range 140 {
		all = append(all, text(many), strings.Repeat("\x00", many), strings.Repeat("\xff", many))
	}
	for _, key := range all {
		for _, s := range texts {
			if got, want := Sum(key, s), librarySum(key, s); got != want {
				t.Errorf("Sum(key of %d bytes, %d bytes) = %x, want %x", len(key), len(s), got, want)
			}
		}
	}
}

// TestSumTold (P4.1, P4): it has 32 bytes, asked again it is the same, and it is another one with a bit of the key or of the text turned, or when a byte goes over from the key to the text.
func TestSumTold(t *testing.T) {
	key, s := text(70), text(100)
	want := Sum(key, s)
	if len(want) != 32 || Sum(key, s) != want {
		t.Errorf("Sum = %x, asked again %x", want, Sum(key, s))
	}
	for bit := range 8 * len(key) {
		if Sum(turned(key, bit), s) == want {
			t.Errorf("Sum is the same with bit %d of the key turned", bit)
		}
	}
	for bit := range 8 * len(s) {
		if Sum(key, turned(s, bit)) == want {
			t.Errorf("Sum is the same with bit %d of the text turned", bit)
		}
	}
	if Sum("ab", "cd") == Sum("abc", "d") || Sum("ab", "cd") == Sum("cd", "ab") || Sum("ab", "") == Sum("", "ab") {
		t.Error("Sum is the same of another key and text")
	}
}

// sameKeys are pairs of keys that come to the same: with zeros behind them, up to a block, and above a block with the key's own digest.
func sameKeys() (out [][2]string) {
	for _, many := range []int{0, 1, 31, 32, 62, 63} {
		key := text(many)
		out = append(out, [2]string{key, key + "\x00"}, [2]string{key, key + strings.Repeat("\x00", 64-many)})
	}
	for _, many := range []int{65, 66, 128, 1000, 1 << 16} {
		digest := sha256.Sum256([]byte(text(many)))
		out = append(out, [2]string{text(many), string(digest[:])}, [2]string{text(many), string(digest[:]) + "\x00"})
	}
	return out
}

// otherKeys are pairs of keys that look as if they came to the same, and do not.
func otherKeys() (out [][2]string) {
	for _, many := range []int{0, 1, 32, 63, 64} {
		key := text(many)
		digest := sha256.Sum256([]byte(key))
		// Up to a block no digest of the key is taken; with zeros beyond a block it is.
		out = append(out, [2]string{key, string(digest[:])}, [2]string{key, key + strings.Repeat("\x00", 65-many)})
		out = append(out, [2]string{key, "\x00" + key + "x"}, [2]string{key, key + "x"})
	}
	out = append(out, [2]string{text(65), text(64)}, [2]string{text(65), text(65) + "\x00"}, [2]string{text(128), text(64)})
	return out
}

// TestSumKeys (P4.1): which keys come to the same, at the edges of 63, 64 and 65 bytes.
func TestSumKeys(t *testing.T) {
	for _, pair := range sameKeys() {
		if Sum(pair[0], "text") != Sum(pair[1], "text") {
			t.Errorf("keys of %d and %d bytes do not come to the same", len(pair[0]), len(pair[1]))
		}
	}
	for _, pair := range otherKeys() {
		if Sum(pair[0], "text") == Sum(pair[1], "text") {
			t.Errorf("keys of %d and %d bytes come to the same", len(pair[0]), len(pair[1]))
		}
	}
}

// TestEqual (P4.1): of any number of bytes, not of a digest's alone: the same, and with each bit turned.
func TestEqual(t *testing.T) {
	for _, many := range []int{0, 1, 2, 16, 31, 32, 33, 63, 64, 65, 96, 100} {
		a := text(many)
		if !Equal(a, strings.Clone(a)) {
			t.Errorf("%d bytes are not equal to themselves", many)
		}
		for bit := range 8 * many {
			if Equal(a, turned(a, bit)) || Equal(turned(a, bit), a) {
				t.Errorf("%d bytes are equal to those with bit %d turned", many, bit)
			}
		}
	}
	long := text(1 << 20)
	if !Equal(long, strings.Clone(long)) || Equal(long, turned(long, 8*len(long)-1)) {
		t.Error("Equal of a long text")
	}
}

// TestEqualLengths (P4.1): no text is equal to one with bytes more, be they zeros, nor to one with bytes less.
func TestEqualLengths(t *testing.T) {
	for _, many := range []int{0, 1, 16, 31, 32, 33, 63, 64, 65} {
		for _, a := range []string{text(many), strings.Repeat("\x00", many)} {
			for _, more := range []string{"\x00", "x", strings.Repeat("\x00", 31), strings.Repeat("\x00", 32), strings.Repeat("\x00", 64)} {
				if Equal(a, a+more) || Equal(a+more, a) {
					t.Errorf("%d bytes are equal to those with %x behind them", many, more)
				}
			}
		}
	}
	if !Equal("", "") || Equal("", "a") || Equal("a", "") || Equal("é", "e\u0301") {
		t.Error("Equal of short texts")
	}
}

// TestRight (P4.2): the edges of each field; Until may be any.
func TestRight(t *testing.T) {
	for _, token := range rightTokens() {
		if !Right(token) {
			t.Errorf("%+v is not right", token)
		}
	}
	for _, until := range []uint64{0, 1, math.MaxUint64} {
		if !Right(Token{1, "b", 1, until}) {
			t.Errorf("a token until %d is not right", until)
		}
	}
	for _, token := range wrongTokens() {
		if Right(token) {
			t.Errorf("%+v is right", token)
		}
	}
}

// TestMintKnown (P4.2): the claim's bytes written out, and behind them their keyed digest as the library tells it.
func TestMintKnown(t *testing.T) {
	known := []struct {
		token Token
		claim string
	}{
		{Token{1, "b", Read, 0}, "\x01\x01b\x01\x00\x00\x00\x00\x00\x00\x00\x00"},
		{Token{2, "ab", Write, 10}, "\x02\x02ab\x02\x00\x00\x00\x00\x00\x00\x00\x0a"},
		{Token{3, "\x00", 3, 0x0102030405060708}, "\x03\x01\x00\x03\x01\x02\x03\x04\x05\x06\x07\x08"},
		{Token{7, "日本", 3, 256}, "\x07\x06日本\x03\x00\x00\x00\x00\x00\x00\x01\x00"},
		{Token{8, "0123456789abcdef", 3, math.MaxUint64}, "\x08\x100123456789abcdef\x03\xff\xff\xff\xff\xff\xff\xff\xff"},
	}
	for _, key := range keys() {
		for _, k := range known {
			if got, ok := Mint(key, k.token); !ok || got != signed(key, k.claim) {
				t.Errorf("Mint(key of %d bytes, %+v) = %x, %v; want %x", len(key), k.token, got, ok, signed(key, k.claim))
			}
		}
	}
}

// TestMintEach (P4.2, P4): of each right token; no two of them are minted to the same, and asked again it is the same.
func TestMintEach(t *testing.T) {
	all := map[string]Token{}
	for _, token := range rightTokens() {
		claim := string([]byte{byte(token.Tenant), byte(len(token.Bucket))}) + token.Bucket + string([]byte{byte(token.Rights)}) + eight(token.Until)
		got := mint(t, "key", token)
		if got != signed("key", claim) || got != mint(t, "key", token) {
			t.Errorf("Mint of %+v = %x, want %x", token, got, signed("key", claim))
		}
		if other, ok := all[got]; ok && other != token {
			t.Errorf("%+v and %+v are minted to the same", token, other)
		}
		all[got] = token
	}
}

// TestMintWrong (P4.2): what is not right is not minted, by no key.
func TestMintWrong(t *testing.T) {
	for _, token := range wrongTokens() {
		for _, key := range []string{"", "key", text(64), text(65)} {
			if got, ok := Mint(key, token); ok || got != "" {
				t.Errorf("Mint(%.20q, %+v) = %x, %v; want nothing, and false", key, token, got, ok)
			}
		}
	}
}

// TestOpenMinted (P4.3): what was minted is opened as it was, by each kind of key.
func TestOpenMinted(t *testing.T) {
	for _, token := range rightTokens() {
		wantOpen(t, "key", mint(t, "key", token), 0, token)
		wantOpen(t, "key", mint(t, "key", token), token.Until-1, token)
	}
	for _, key := range keys() {
		for _, token := range []Token{{1, "b", 1, 1}, {8, text(16), 3, math.MaxUint64}} {
			wantOpen(t, key, mint(t, key, token), 0, token)
		}
	}
}

// TestOpenNow (P4.3): below Until it is opened; at Until and above it, it is denied; until 0 always.
func TestOpenNow(t *testing.T) {
	for _, until := range untils() {
		token := Token{3, "bucket", 2, until}
		s := mint(t, "key", token)
		for _, now := range []uint64{0, until / 2, until - 1} {
			wantOpen(t, "key", s, now, token)
		}
		wantDeny(t, "key", s, until)
		wantDeny(t, "key", s, math.MaxUint64)
		if until < math.MaxUint64 {
			wantDeny(t, "key", s, until+1)
		}
	}
	never := mint(t, "key", Token{3, "bucket", 2, 0})
	for _, now := range []uint64{0, 1, 10, 1 << 63, math.MaxUint64} {
		wantDeny(t, "key", never, now)
	}
}

// TestOpenCut (P4.3): nothing (the chapter's example), each prefix and each end of a minted text, and with bytes more.
func TestOpenCut(t *testing.T) {
	wantDeny(t, "key", "", 0)
	wantDeny(t, "", "", 0)
	for _, token := range []Token{{1, "b", 1, 10}, {8, text(16), 3, math.MaxUint64}} {
		s := mint(t, "key", token)
		for cut := range len(s) {
			wantDeny(t, "key", s[:cut], 0)
			wantDeny(t, "key", s[cut+1:], 0)
		}
		for b := range 256 {
			one := string([]byte{byte(b)})
			wantDeny(t, "key", s+one, 0)
			wantDeny(t, "key", one+s, 0)
		}
		wantDeny(t, "key", s+s, 0)
		wantDeny(t, "key", s+text(1<<16), 0)
		wantDeny(t, "key", s+strings.Repeat("\x00", 32), 0)
	}
}

// TestOpenNoMint (P4.3): claims that bear the key's own digest, and yet are no right token's.
func TestOpenNoMint(t *testing.T) {
	end := "\x01" + eight(10)
	claims := []string{
		"", "\x01", "\x01\x01b", "\x01\x01b\x01",
		"\x00\x01b" + end, "\x09\x01b" + end, "\xff\x01b" + end,
		"\x01\x00" + end, "\x01\x11" + strings.Repeat("b", 17) + end,
		"\x01\x80\x01" + strings.Repeat("b", 128) + end,
		"\x01\x81\x00b" + end, "\x01\x81\x80\x00b" + end, // a length in more bytes than it needs
		"\x01\x02b" + end, "\x01\x01bb" + end,
		"\x01\x01b\x00" + eight(10), "\x01\x01b\x04" + eight(10), "\x01\x01b\x07" + eight(10), "\x01\x01b\xff" + eight(10),
		"\x01\x01b\x01" + eight(10)[1:], "\x01\x01b\x01" + eight(10) + "\x00", "\x01\x01b\x01\x00" + eight(10),
		"\x01\xff\xff\xff\xff\xff\xff\xff\xff\xff\x01b" + end, // a length that no int holds
	}
	for _, claim := range claims {
		wantDeny(t, "key", signed("key", claim), 0)
	}
	wantOpen(t, "key", signed("key", "\x01\x01b"+end), 9, Token{1, "b", 1, 10})
}

// TestOpenDigest (P4.3): behind a right claim stands nothing but its own keyed digest.
func TestOpenDigest(t *testing.T) {
	claim := "\x01\x01b\x01" + eight(10)
	plain := sha256.Sum256([]byte(claim))
	digest := librarySum("key", claim)
	for _, behind := range []string{
		"", strings.Repeat("\x00", 32), string(plain[:]), librarySum("", claim), librarySum(claim, "key"),
		librarySum("key", claim[1:]), digest[:31], digest + "\x00", digest[1:] + digest[:1], hex.EncodeToString([]byte(digest)),
	} {
		wantDeny(t, "key", claim+behind, 0)
	}
	wantOpen(t, "key", claim+digest, 0, Token{1, "b", 1, 10})
}

// TestOpenAny (P4.3, P1): bytes by a rule, of any number, and of all numbers of short texts, are denied.
func TestOpenAny(t *testing.T) {
	for many := range 300 {
		wantDeny(t, "key", text(many), 0)
		wantDeny(t, "key", strings.Repeat("\x00", many), 0)
		wantDeny(t, "key", strings.Repeat("\x01", many), 0)
		wantDeny(t, "key", strings.Repeat("\xff", many), 0)
	}
	for x := range 1 << 16 {
		wantDeny(t, "key", string([]byte{byte(x >> 8), byte(x)}), 0)
	}
	wantDeny(t, "key", text(1<<22), 0)
}

// TestOpenOwn (P4.3, P3): what is answered shares no memory with what was handed in.
func TestOpenOwn(t *testing.T) {
	s := mint(t, "key", Token{1, "bucket", 1, 10})
	got, _ := Open("key", s, 0)
	if unsafe.StringData(got.Bucket) == unsafe.StringData(s[2:]) {
		t.Error("the bucket stands in the text that was handed in")
	}
}

// TestMayRights (P4.3): a right that is Read or Write, and whose bit Rights has.
func TestMayRights(t *testing.T) {
	for rights, want := range map[int][2]bool{
		0: {false, false}, 1: {true, false}, 2: {false, true}, 3: {true, true}, 4: {false, false},
		5: {true, false}, 6: {false, true}, 7: {true, true}, -1: {true, true}, -2: {false, true}, -4: {false, false},
		math.MaxInt: {true, true}, math.MinInt: {false, false}, math.MinInt + 1: {true, false},
	} {
		token := Token{1, "b", rights, 10}
		if got := [2]bool{token.May(1, "b", Read), token.May(1, "b", Write)}; got != want {
			t.Errorf("with rights %d: May of Read and Write = %v, want %v", rights, got, want)
		}
		for _, right := range []int{0, 3, 4, 5, 7, 8, -1, -2, 257, 1<<32 + 1, math.MaxInt, math.MinInt} {
			if token.May(1, "b", right) {
				t.Errorf("with rights %d: May of %d, which is no right", rights, right)
			}
		}
	}
	if Read != 1 || Write != 2 {
		t.Errorf("Read is %d, Write is %d", Read, Write)
	}
}

// TestMayWhose (P4.3): of that tenant, and of that bucket, byte by byte, whatever Until is.
func TestMayWhose(t *testing.T) {
	for tenant := 1; tenant <= 8; tenant++ {
		token := Token{tenant, "bucket", 3, 0}
		for other := -9; other <= 9; other++ {
			if got := token.May(other, "bucket", Read); got != (other == tenant) {
				t.Errorf("tenant %d's token: May(%d) = %v", tenant, other, got)
			}
		}
		for _, other := range []int{tenant + 256, tenant + 1<<32, -tenant, math.MaxInt, math.MinInt} {
			if token.May(other, "bucket", Write) {
				t.Errorf("tenant %d's token: May(%d)", tenant, other)
			}
		}
		for _, other := range []string{"", "b", "bucke", "buckets", "bucket\x00", "Bucket", "tekcub", "\x06bucket"} {
			if token.May(tenant, other, Read) || token.May(tenant, other, Write) {
				t.Errorf("the token of bucket: May(%q)", other)
			}
		}
		if !token.May(tenant, "bucket", Read) || !token.May(tenant, "bucket", Write) {
			t.Errorf("tenant %d's token may nothing", tenant)
		}
	}
	if (Token{}).May(0, "", Read) || (Token{}).May(0, "", 0) {
		t.Error("no token may something")
	}
}

// TestMayOpened (P4.3): a token that was opened may what it was minted for, and nothing else.
func TestMayOpened(t *testing.T) {
	for _, c := range []struct {
		rights      int
		read, write bool
	}{{Read, true, false}, {Write, false, true}, {Read | Write, true, true}} {
		got, e := Open("key", mint(t, "key", Token{2, "b", c.rights, 10}), 9)
		if e != api.OK || got.May(2, "b", Read) != c.read || got.May(2, "b", Write) != c.write || got.May(1, "b", Read) || got.May(2, "c", Write) {
			t.Errorf("rights %d: %+v, %d", c.rights, got, e)
		}
	}
}

// TestOtherKey (P4.4): no other key opens what one minted, each bit of it turned among them.
func TestOtherKey(t *testing.T) {
	token := Token{5, "bucket", 3, 10}
	all := keys()
	for i, key := range all {
		s := mint(t, key, token)
		for j, other := range all {
			if i != j {
				wantDeny(t, other, s, 0)
			}
		}
	}
	for _, many := range []int{1, 32, 63, 64, 65, 100} {
		key := text(many)
		s := mint(t, key, token)
		for bit := range 8 * many {
			wantDeny(t, turned(key, bit), s, 0)
		}
	}
	for _, pair := range otherKeys() {
		wantDeny(t, pair[0], mint(t, pair[1], token), 0)
		wantDeny(t, pair[1], mint(t, pair[0], token), 0)
	}
}

// TestSameKey (P4.4): two keys that come to the same open what either of them minted.
func TestSameKey(t *testing.T) {
	token := Token{5, "bucket", 3, 10}
	for _, pair := range sameKeys() {
		wantOpen(t, pair[0], mint(t, pair[1], token), 9, token)
		wantOpen(t, pair[1], mint(t, pair[0], token), 9, token)
	}
}

// TestBitTurned (P4.4): with any bit turned, of the claim or of the digest, it is denied.
func TestBitTurned(t *testing.T) {
	for _, token := range []Token{{1, "b", 1, 1}, {2, "ab", 2, 10}, {3, "\x00", 3, 1 << 63}, {8, text(16), 3, math.MaxUint64}} {
		for _, key := range []string{"", "key", text(64), text(65)} {
			s := mint(t, key, token)
			for bit := range 8 * len(s) {
				wantDeny(t, key, turned(s, bit), 0)
			}
			wantOpen(t, key, s, 0, token)
		}
	}
}
