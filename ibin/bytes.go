package ibin

// The bytes that stand for something beside numbers and types.
const (
	prefixThings = 0xfb // an opcode with a prefix is this, or the next one, and a number
	prefixBulk   = 0xfc
	prefixPlaces = 8 // by how many bits a prefix stands above its number in an api.Op

	byteBlockNone = 0x40
	byteRefNull   = 0x63
	byteRef       = 0x64
	byteOwn       = 0x7f // the places of a number in a byte of its own

	otherMem = 64 // added to how a ShMem is aligned, if its memory is told, too

	castNull  = 1
	castNull2 = 2
)

const (
	indexBits = 32
	blockBits = 33 // of a block's type, which may be an index and may be a byte that reads as a number below 0
)
